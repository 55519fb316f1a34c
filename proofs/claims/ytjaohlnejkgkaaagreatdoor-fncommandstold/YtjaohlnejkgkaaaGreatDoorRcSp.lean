/- Commands: RcSpec, RcS1, RcSpB, RcS2, RcS3 in one text. -/
import Derived.Test.YtjaohlnejkgkaaaGreatDoorCmPlain
import Derived.Test.YtjaohlnejkgkaaaGreatDoorCmSA
namespace Go.Proofs.YtjaohlnejkgkaaaGreatDoor.Plain
set_option linter.unusedVariables false

/-- Behind the figures of a length: the mark that closes, and the end of a line. -/
def endS (n p : Int) : List UInt8 → List UInt8 → Int × Int
  | [], _ => (n, p + 3)
  | _ :: _, [] => (0, 0)
  | e :: es, c :: v => if c = e then endS n p es v else (0, -1)
/-- The figures of a length: k more may come, j are read, that tell n; the place is p. -/
def figsS : Nat → Nat → Int → Int → List UInt8 → Int × Int
  | _, _, _, _, [] => (0, 0)
  | 0, j, n, p, b :: v => if j = 0 then (0, -1) else endS n p [125, 13, 10] (b :: v)
  | k + 1, j, n, p, b :: v => if figOk b then figsS k (j + 1) (10 * n + (b.toNat : Int) - 48) (p + 1) v else if j = 0 then (0, -1) else endS n p [125, 13, 10] (b :: v)
/-- In quotation marks: what is read, the place, the rest. -/
def textS (acc : List UInt8) (p : Int) : List UInt8 → List UInt8 × Int
  | [] => ([], 0)
  | [b] => if b = 34 then (acc, p + 1) else if prB b = false then ([], -1) else ([], 0)
  | b :: c :: v => if b = 34 then (acc, p + 1) else if prB b = false then ([], -1) else if b = 92 then (if c = 34 ∨ c = 92 then textS (acc ++ [c]) (p + 2) v else ([], -1)) else textS (acc ++ [b]) (p + 1) (c :: v)
def spanS : List UInt8 → Nat
  | [] => 0
  | b :: v => if plB b then spanS v + 1 else 0
def nextW (p : Nat) (u : List UInt8) : List UInt8 × Int :=
  match u with
  | [] => ([], 0)
  | b :: v =>
    if b = 123 then
      if (figsS 3 0 0 ((p : Int) + 1) v).2 ≤ 0 then ([], (figsS 3 0 0 ((p : Int) + 1) v).2)
      else if 300 < (figsS 3 0 0 ((p : Int) + 1) v).2 + (figsS 3 0 0 ((p : Int) + 1) v).1 + 2 then ([], -1)
      else if (p : Int) + (v.length + 1) - (figsS 3 0 0 ((p : Int) + 1) v).2 < (figsS 3 0 0 ((p : Int) + 1) v).1 then ([], 0)
      else (((b :: v).drop ((figsS 3 0 0 ((p : Int) + 1) v).2 - p).toNat).take (figsS 3 0 0 ((p : Int) + 1) v).1.toNat, (figsS 3 0 0 ((p : Int) + 1) v).2 + (figsS 3 0 0 ((p : Int) + 1) v).1)
    else if b = 34 then textS [] ((p : Int) + 1) v
    else if b = 40 then (if scanL true 0 (p + 1) v ≤ 0 then ([], scanL true 0 (p + 1) v) else ((b :: v).take (scanL true 0 (p + 1) v - p).toNat, scanL true 0 (p + 1) v))
    else if spanS (b :: v) = 0 ∨ 60 < spanS (b :: v) then ([], -1) else ((b :: v).take (spanS (b :: v)), (p : Int) + spanS (b :: v))
def readW : Nat → Nat → List (List UInt8) → List UInt8 → List (List UInt8) × Int
  | 0, _, out, _ => (out, -1)
  | f + 1, p, out, u =>
    if (nextW p u).2 ≤ 0 then (out, (nextW p u).2)
    else match u.drop ((nextW p u).2 - p).toNat with
      | [] => (out ++ [(nextW p u).1], 0)
      | c :: v => if c = 13 then (match v with
          | [] => (out ++ [(nextW p u).1], 0)
          | d :: _ => if d = 10 then (out ++ [(nextW p u).1], (nextW p u).2 + 2) else (out ++ [(nextW p u).1], -1))
        else if c ≠ 32 ∨ out.length + 1 = 12 then (out ++ [(nextW p u).1], -1) else readW f ((nextW p u).2.toNat + 1) (out ++ [(nextW p u).1]) v
def spV (t : List UInt8) : List (List UInt8) × Int × Int :=
  if 0 < (readW 12 0 [] t).2 ∧ (readW 12 0 [] t).2 ≤ 300 then ((readW 12 0 [] t).1, (readW 12 0 [] t).2, 0)
  else if (readW 12 0 [] t).2 = 0 ∧ t.length < 300 then ([], 0, 1) else ([], 0, 2)
theorem sp_try1 : spV [97, 32, 40, 98, 32, 99, 41, 32, 34, 92, 34, 120, 34, 32, 123, 51, 125, 13, 10, 0, 1, 2, 13, 10, 120] = ([[97], [40, 98, 32, 99, 41], [34, 120], [0, 1, 2]], 24, 0) := by decide +kernel
theorem sp_try2 : spV [123, 51, 48, 48, 125] = ([], 0, 1) := by decide +kernel
end Go.Proofs.YtjaohlnejkgkaaaGreatDoor.Plain
namespace Go.Proofs.YtjaohlnejkgkaaaGreatDoor
open Go.RowKit
open Plain
set_option linter.unusedVariables false
set_option linter.unusedSimpArgs false
attribute [local go_sem] cell_of frozen_of

namespace Plain
theorem byte_eq2 {b c : UInt8} (h : b = c) : ((b.toNat : Int) == (c.toNat : Int)) = true := by rw [h]; exact beq_self_eq_true _
theorem text_nil (x : List UInt8) (p : Int) : textS x p [] = ([], 0) := by rw [textS]
theorem text_mark (x : List UInt8) (p : Int) (v : List UInt8) : textS x p (34 :: v) = (x, p + 1) := by cases v <;> (rw [textS]; rw [if_pos rfl])
theorem text_bad {x : List UInt8} {p : Int} {b : UInt8} {v : List UInt8} (h : b ≠ 34) (h2 : prB b = false) : textS x p (b :: v) = ([], -1) := by cases v <;> (rw [textS]; rw [if_neg h, if_pos h2])
theorem text_end (x : List UInt8) (p : Int) : textS x p [92] = ([], 0) := by rw [textS]; rfl
theorem text_esc {x : List UInt8} {p : Int} {c : UInt8} {v : List UInt8} (h : c = 34 ∨ c = 92) : textS x p (92 :: c :: v) = textS (x ++ [c]) (p + 2) v := by rw [textS, if_neg (by decide), if_neg (by decide), if_pos rfl, if_pos h]
theorem text_esc_no {x : List UInt8} {p : Int} {c : UInt8} {v : List UInt8} (h : ¬ (c = 34 ∨ c = 92)) : textS x p (92 :: c :: v) = ([], -1) := by rw [textS, if_neg (by decide), if_neg (by decide), if_pos rfl, if_neg h]
theorem text_other {x : List UInt8} {p : Int} {b : UInt8} {v : List UInt8} (h : b ≠ 34) (h2 : prB b = true) (h3 : b ≠ 92) : textS x p (b :: v) = textS (x ++ [b]) (p + 1) v := by
  have h2' : ¬ prB b = false := by rw [h2]; decide
  cases v with
  | nil => rw [text_nil, textS, if_neg h, if_neg h2']
  | cons c v => rw [textS, if_neg h, if_neg h2', if_neg h3]
end Plain
def intT (V : List UInt8 × Int) : Value := .tuple #[.string ⟨V.1.toArray⟩, .int .i64 V.2]
def intL (V : Int × Int) : Value := .tuple #[.int .i64 V.1, .int .i64 V.2]
set_option maxHeartbeats 4000000 in
set_option maxRecDepth 100000 in
theorem spec_Text (s : ByteArray) (P : Nat) (w : World) (hs : s.size ≤ 4194304) (hP : P < s.size) :
    Calls Tryz.prog 55 #[.string s, .int .i64 (P : Int)] w fun e w' => e = .returned (intT (textS [] ((P : Int) + 1) (s.data.toList.drop (P + 1)))) ∧ w' = w := by
  obtain ⟨V, hV⟩ : ∃ V, textS [] ((P : Int) + 1) (s.data.toList.drop (P + 1)) = V := ⟨_, rfl⟩
  rw [hV]
  have HV := hide hV
  clear hV
  have w0 : IntKind.i64.wrap ((P : Int) + 1) = (P : Int) + 1 := by rw [IntKind.wrap_i64]; omega
  go_enter Tryz.func55, Tryz.ntmps55
  go_wp2
  go_loop [6, 7] (fun o i => ∃ (k : Nat) (x : List UInt8), P + 1 ≤ k ∧ k ≤ s.size ∧ x.length ≤ k ∧ o = .string ⟨x.toArray⟩ ∧ i = .int .i64 k ∧ textS x k (s.data.toList.drop k) = V) (fun _ i => s.size - (intOf i).toNat)
  case atStart => exact ⟨P + 1, [], Nat.le_refl _, hP, Nat.zero_le _, rfl, by go_num, by rw [show ((P + 1 : Nat) : Int) = (P : Int) + 1 by omega]; exact unhide HV⟩
  clear w0
  case round =>
    obtain ⟨k, x, hk0, hk, hxl, rfl, rfl, hall⟩ := hrel
    have HC := hide hall
    clear hall HV
    have hxs : (⟨x.toArray⟩ : ByteArray).size ≤ k := hxl
    by_cases hlt : k < s.size
    · have HD : Hid (s.data.toList.drop k = s[k] :: s.data.toList.drop (k + 1)) := List.drop_eq_getElem_cons (l := s.data.toList) hlt
      have i1 : (0 : Int) ≤ (k : Int) := by omega
      have i2 : (k : Int) < (s.size : Int) := by omega
      obtain ⟨m, hm⟩ : ∃ m, m = k + 1 := ⟨_, rfl⟩
      have HM := hide hm
      have w1 : IntKind.i64.wrap ((k : Int) + 1) = (m : Int) := by rw [IntKind.wrap_i64]; omega
      by_cases c1 : s[k] = 34
      · have VV : Hid (V = (x, (m : Int))) := by show V = _; rw [← unhide HC, unhide HD, c1, text_mark, hm]; rfl
        have d1 : ((s[k].toNat : Int) == 34) = true := byte_eq2 c1
        clear HC HD c1 hm
        go_wp2
        have hm := unhide HM
        refine bodyPost_ret (by simp [results, Tryz.results55, go_sem]; try rfl) rfl ?_
        exact ⟨by rw [unhide VV]; rfl, rfl⟩
      · have d1 : ((s[k].toNat : Int) == 34) = false := byte_ne c1
        have LD : Hid (prB s[k] = (decide (32 ≤ s[k].toNat) && decide (s[k].toNat ≤ 126))) := rfl
        by_cases h1 : 32 ≤ s[k].toNat
        · have d2 : decide ((s[k].toNat : Int) < 32) = false := by rw [decide_eq_false_iff_not]; omega
          by_cases h2 : s[k].toNat ≤ 126
          · have d3 : decide ((126 : Int) < (s[k].toNat : Int)) = false := by rw [decide_eq_false_iff_not]; omega
            have hp : prB s[k] = true := by rw [unhide LD, decide_eq_true h1, decide_eq_true h2]; rfl
            by_cases c2 : s[k] = 92
            · have d4 : ((s[k].toNat : Int) == 92) = true := byte_eq2 c2
              by_cases hl2 : m < s.size
              · have HD2 : Hid (s.data.toList.drop (k + 1) = s[m] :: s.data.toList.drop (m + 1)) := by show _ = _; rw [← hm]; exact List.drop_eq_getElem_cons (l := s.data.toList) hl2
                have i3 : (0 : Int) ≤ (m : Int) := by omega
                have i4 : (m : Int) < (s.size : Int) := by omega
                have d5 : ((m : Int) == (s.size : Int)) = false := beq_eq_false_iff_ne.2 (by omega)
                have w2 : IntKind.i64.wrap ((m : Int) + 1) = (m : Int) + 1 := by rw [IntKind.wrap_i64]; omega
                have EX := hide (byteOne s m hl2)
                have VN := hide (fun (h : ¬ (s[m] = 34 ∨ s[m] = 92)) => text_esc_no (x := x) (p := (k : Int)) (c := s[m]) (v := s.data.toList.drop (m + 1)) h)
                have VY := hide (fun (h : s[m] = 34 ∨ s[m] = 92) => text_esc (x := x) (p := (k : Int)) (c := s[m]) (v := s.data.toList.drop (m + 1)) h)
                have HC2 : Hid (textS x k (92 :: s[m] :: s.data.toList.drop (m + 1)) = V) := by show _ = V; rw [← unhide HC, unhide HD, unhide HD2, c2]
                clear HC HD HD2 h1 h2 c2 LD hp
                by_cases c3 : s[m] = 34
                · have d6 : ((s[m].toNat : Int) == 34) = true := byte_eq2 c3
                  have pd6 : (s[m].toNat : Int) = 34 := beq_iff_eq.1 d6
                  have ok := hide ((unhide VY (.inl c3)).symm.trans (unhide HC2))
                  clear VN VY HC2 c3 hm
                  go_wp2
                  have hm := unhide HM
                  refine ⟨⟨m + 1, x ++ [s[m]], by omega, by omega, by simp; omega, ?_, by go_num, by rw [show ((m + 1 : Nat) : Int) = (k : Int) + 2 by omega]; exact unhide ok⟩, by simp [intOf]; omega⟩
                  rw [unhide EX]
                  exact congrArg Value.string (ByteArray.mk_append_mk x [s[m]])
                · have d6 : ((s[m].toNat : Int) == 34) = false := byte_ne c3
                  have pd6 : ¬ (s[m].toNat : Int) = 34 := beq_eq_false_iff_ne.1 d6
                  by_cases c4 : s[m] = 92
                  · have d7 : ((s[m].toNat : Int) == 92) = true := byte_eq2 c4
                    have pd7 : (s[m].toNat : Int) = 92 := beq_iff_eq.1 d7
                    have ok := hide ((unhide VY (.inr c4)).symm.trans (unhide HC2))
                    clear VN VY HC2 c3 c4 hm
                    go_wp2
                    have hm := unhide HM
                    refine ⟨⟨m + 1, x ++ [s[m]], by omega, by omega, by simp; omega, ?_, by go_num, by rw [show ((m + 1 : Nat) : Int) = (k : Int) + 2 by omega]; exact unhide ok⟩, by simp [intOf]; omega⟩
                    rw [unhide EX]
                    exact congrArg Value.string (ByteArray.mk_append_mk x [s[m]])
                  · have d7 : ((s[m].toNat : Int) == 92) = false := byte_ne c4
                    have pd7 : ¬ (s[m].toNat : Int) = 92 := beq_eq_false_iff_ne.1 d7
                    have n34 : ((s[m].toNat : Int) != 34) = true := bne_iff_ne.2 pd6
                    have n92 : ((s[m].toNat : Int) != 92) = true := bne_iff_ne.2 pd7
                    have VV : Hid (V = ([], -1)) := (unhide HC2).symm.trans (unhide VN (fun h => h.elim c3 c4))
                    clear VN VY HC2 c3 c4 hm
                    go_wp2
                    have hm := unhide HM
                    refine bodyPost_ret (by simp [results, Tryz.results55, go_sem]; try rfl) rfl ?_
                    exact ⟨by rw [unhide VV]; rfl, rfl⟩
              · have hd : s.data.toList.drop (k + 1) = [] := List.drop_eq_nil_of_le (by show s.size ≤ k + 1; omega)
                have d5 : ((m : Int) == (s.size : Int)) = true := beq_iff_eq.2 (by omega)
                have VV : Hid (V = ([], 0)) := by show V = _; rw [← unhide HC, unhide HD, c2, hd, text_end]
                clear HC HD h1 h2 c2 LD hp hd hm
                go_wp2
                have hm := unhide HM
                refine bodyPost_ret (by simp [results, Tryz.results55, go_sem]; try rfl) rfl ?_
                exact ⟨by rw [unhide VV]; rfl, rfl⟩
            · have d4 : ((s[k].toNat : Int) == 92) = false := byte_ne c2
              have i5 : k ≤ m := by omega
              have i6 : m ≤ s.size := by omega
              have EX : Hid (s.extract k m = ⟨#[s[k]]⟩) := by show _ = _; rw [hm]; exact byteOne s k hlt
              have ok : Hid (textS (x ++ [s[k]]) ((k : Int) + 1) (s.data.toList.drop (k + 1)) = V) := by show _ = V; rw [← unhide HC, unhide HD, text_other c1 hp c2]
              clear HC HD h1 h2 c1 c2 LD hp hm
              go_wp2
              have hm := unhide HM
              refine ⟨⟨m, x ++ [s[k]], by omega, by omega, by simp; omega, ?_, by go_num, by rw [show (m : Int) = (k : Int) + 1 by omega, hm]; exact unhide ok⟩, by simp [intOf]; omega⟩
              rw [unhide EX]
              exact congrArg Value.string (ByteArray.mk_append_mk x [s[k]])
          · have d3 : decide ((126 : Int) < (s[k].toNat : Int)) = true := by rw [decide_eq_true_eq]; omega
            have VV : Hid (V = ([], -1)) := by show V = _; rw [← unhide HC, unhide HD, text_bad c1 (by rw [unhide LD, decide_eq_false h2, Bool.and_false])]
            clear HC HD h1 h2 c1 LD hm
            go_wp2
            have hm := unhide HM
            refine bodyPost_ret (by simp [results, Tryz.results55, go_sem]; try rfl) rfl ?_
            exact ⟨by rw [unhide VV]; rfl, rfl⟩
        · have d2 : decide ((s[k].toNat : Int) < 32) = true := by rw [decide_eq_true_eq]; omega
          have VV : Hid (V = ([], -1)) := by show V = _; rw [← unhide HC, unhide HD, text_bad c1 (by rw [unhide LD, decide_eq_false h1, Bool.false_and])]
          clear HC HD h1 c1 LD hm
          go_wp2
          have hm := unhide HM
          refine bodyPost_ret (by simp [results, Tryz.results55, go_sem]; try rfl) rfl ?_
          exact ⟨by rw [unhide VV]; rfl, rfl⟩
    · have e : k = s.size := by omega
      subst e
      have hd : s.data.toList.drop s.size = [] := List.drop_eq_nil_of_le (by show s.size ≤ s.size; omega)
      have VV : Hid (V = ([], 0)) := by show V = _; rw [← unhide HC, hd, text_nil]
      clear HC hd
      go_wp2
      refine bodyPost_ret (by simp [results, Tryz.results55, go_sem]; try rfl) rfl ?_
      exact ⟨by rw [unhide VV]; rfl, rfl⟩
namespace Plain
theorem figs_nil (k j : Nat) (n p : Int) : figsS k j n p [] = (0, 0) := by cases k <;> rw [figsS]
theorem figs_on {k j : Nat} {n p : Int} {b : UInt8} {v : List UInt8} (h : figOk b = true) : figsS (k + 1) j n p (b :: v) = figsS k (j + 1) (10 * n + (b.toNat : Int) - 48) (p + 1) v := by rw [figsS, if_pos h]
theorem figs_none {k : Nat} {n p : Int} {b : UInt8} {v : List UInt8} (h : figOk b = false) : figsS (k + 1) 0 n p (b :: v) = (0, -1) := by rw [figsS, if_neg (by rw [h]; decide), if_pos rfl]
theorem figs_off {k j : Nat} {n p : Int} {b : UInt8} {v : List UInt8} (h : figOk b = false ∨ k = 0) (hj : j ≠ 0) : figsS k j n p (b :: v) = endS n p [125, 13, 10] (b :: v) := by
  cases k with
  | zero => rw [figsS, if_neg hj]
  | succ k =>
    rcases h with h | h
    · rw [figsS, if_neg (by rw [h]; decide), if_neg hj]
    · cases h
end Plain
set_option maxHeartbeats 4000000 in
set_option maxRecDepth 100000 in
theorem spec_Literal (s : ByteArray) (P : Nat) (w : World) (hs : s.size ≤ 4194304) (hP : P < s.size) :
    Calls Tryz.prog 54 #[.string s, .int .i64 (P : Int)] w fun e w' => e = .returned (intL (figsS 3 0 0 ((P : Int) + 1) (s.data.toList.drop (P + 1)))) ∧ Below w.heap.size w w' := by
  obtain ⟨V, hV⟩ : ∃ V, figsS 3 0 0 ((P : Int) + 1) (s.data.toList.drop (P + 1)) = V := ⟨_, rfl⟩
  rw [hV]
  have HV := hide hV
  clear hV
  have w0 : IntKind.i64.wrap ((P : Int) + 1) = (P : Int) + 1 := by rw [IntKind.wrap_i64]; omega
  have M := Mem.start w
  go_enter Tryz.func54, Tryz.ntmps54
  go_wp2
  go_loop [6, 7] (fun i n => ∃ (j : Nat) (N : Int), j ≤ 3 ∧ P + 1 + j ≤ s.size ∧ (0 ≤ N ∧ N ≤ 999 ∧ (j = 0 → N = 0) ∧ (j = 1 → N ≤ 9) ∧ (j = 2 → N ≤ 99)) ∧ i = .int .i64 ((P : Int) + 1 + j) ∧ n = .int .i64 N ∧ figsS (3 - j) j N ((P : Int) + 1 + j) (s.data.toList.drop (P + 1 + j)) = V) (fun i _ => s.size - (intOf i).toNat)
  case atStart => exact ⟨0, 0, by omega, hP, ⟨by omega, by omega, by omega, by omega, by omega⟩, by simp, rfl, by simpa using unhide HV⟩
  clear w0
  case round =>
    obtain ⟨j, N, hj, hk, hN, rfl, rfl, hall⟩ := hrel
    have HC := hide hall
    clear hall HV
    obtain ⟨k, hkk⟩ : ∃ k, k = P + 1 + j := ⟨_, rfl⟩
    have ek : (P : Int) + 1 + j = (k : Int) := by omega
    rw [← hkk] at HC hk
    rw [ek] at HC ⊢
    clear ek
    have w1 : IntKind.i64.wrap ((k : Int) + 1) = (k : Int) + 1 := by rw [IntKind.wrap_i64]; omega
    have w2 : IntKind.i64.wrap ((k : Int) - (P : Int)) = (k : Int) - (P : Int) := by rw [IntKind.wrap_i64]; omega
    have w3 : IntKind.i64.wrap ((P : Int) + 1) = (P : Int) + 1 := by rw [IntKind.wrap_i64]; omega
    by_cases hlt : k < s.size
    · have HD : Hid (s.data.toList.drop k = s[k] :: s.data.toList.drop (k + 1)) := List.drop_eq_getElem_cons (l := s.data.toList) hlt
      have i1 : (0 : Int) ≤ (k : Int) := by omega
      have i2 : (k : Int) < (s.size : Int) := by omega
      have HF : Hid (figOk s[k] = (decide (48 ≤ s[k].toNat) && decide (s[k].toNat ≤ 57))) := rfl
      have hb : s[k].toNat < 256 := s[k].toNat_lt
      by_cases h3 : j = 3
      · have d1 : decide ((k : Int) - (P : Int) ≤ 3) = false := decide_eq_false (by omega)
        have d2 : ((k : Int) == (P : Int) + 1) = false := beq_eq_false_iff_ne.2 (by omega)
        have HE : Hid (endS N (k : Int) [125, 13, 10] (s.data.toList.drop k) = V) := by show _ = V; rw [← unhide HC, unhide HD, figs_off (.inr (by omega)) (by omega)]
        clear HC HD HF hkk h3
        go_wp2
        go_loopw [9] (fun e W => ∃ r : Nat, r ≤ 3 ∧ e = .int .i64 (r : Int) ∧ endS N (k : Int) (([125, 13, 10] : List UInt8).drop r) (s.data.toList.drop (k + r)) = V ∧ k + r ≤ s.size ∧ Mem w W []) (fun e _ => 3 - (intOf e).toNat)
        case atStart => exact ⟨0, by omega, rfl, unhide HE, hk, M⟩
        clear M HE
        case round =>
          obtain ⟨r, hr, rfl, hall, hkr, M⟩ := hrel
          have HC := hide hall
          clear hall
          obtain ⟨m, hm⟩ : ∃ m, m = k + r := ⟨_, rfl⟩
          have HM := hide hm
          rw [← hm] at HC hkr
          have w6 : IntKind.i64.wrap ((k : Int) + (r : Int)) = (m : Int) := by rw [IntKind.wrap_i64]; omega
          have w8 : IntKind.i64.wrap ((k : Int) + 3) = (k : Int) + 3 := by rw [IntKind.wrap_i64]; omega
          by_cases h9 : r = 3
          · have VV : Hid (V = (N, (k : Int) + 3)) := by show V = _; rw [← unhide HC, h9]; rfl
            have d9 : decide ((r : Int) < 3) = false := decide_eq_false (by omega)
            clear HC hm
            go_wp2
            refine bodyPost_ret (by simp [results, Tryz.results54, go_sem]; try rfl) rfl ?_
            exact ⟨by rw [unhide VV]; rfl, M.below⟩
          · have d9 : decide ((r : Int) < 3) = true := decide_eq_true (by omega)
            have hr3 : r < 3 := by omega
            have w7 : IntKind.i64.wrap ((r : Int) + 1) = (r : Int) + 1 := by rw [IntKind.wrap_i64]; omega
            have HR : Hid (([125, 13, 10] : List UInt8).drop r = (⟨#[125, 13, 10]⟩ : ByteArray)[r] :: ([125, 13, 10] : List UInt8).drop (r + 1)) := List.drop_eq_getElem_cons (l := ([125, 13, 10] : List UInt8)) hr3
            have i7 : (0 : Int) ≤ (r : Int) := by omega
            have i8 : (r : Int) < 3 := by omega
            by_cases hlm : m < s.size
            · have HD : Hid (s.data.toList.drop m = s[m] :: s.data.toList.drop (m + 1)) := List.drop_eq_getElem_cons (l := s.data.toList) hlm
              have i5 : (0 : Int) ≤ (m : Int) := by omega
              have i6 : (m : Int) < (s.size : Int) := by omega
              have da : decide ((s.size : Int) ≤ (m : Int)) = false := decide_eq_false (by omega)
              by_cases c9 : s[m] = (⟨#[125, 13, 10]⟩ : ByteArray)[r]
              · have e9 : ((s[m].toNat : Int) == ((⟨#[125, 13, 10]⟩ : ByteArray)[r].toNat : Int)) = true := byte_eq2 c9
                have p9 : (s[m].toNat : Int) = ((⟨#[125, 13, 10]⟩ : ByteArray)[r].toNat : Int) := beq_iff_eq.1 e9
                have ok : Hid (endS N (k : Int) (([125, 13, 10] : List UInt8).drop (r + 1)) (s.data.toList.drop (m + 1)) = V) := by show _ = V; rw [← unhide HC, unhide HD, unhide HR, endS, if_pos c9]
                clear HC HD HR c9 hm
                go_wp2
                refine mb 9 (fun M => ?_)
                refine tm 0 64 ?_; refine tm 1 65 ?_; refine tm 2 66 ?_; refine tm 3 67 ?_; refine tm 4 68 ?_; refine tm 5 69 ?_; refine tm 6 70 ?_; refine tm 7 71 ?_; refine tm 8 72 ?_
                refine td ?_
                go_wp2
                go_roundw
                case rel => exact ⟨r + 1, by omega, by go_num, by rw [show k + (r + 1) = m + 1 by have := unhide HM; omega]; exact unhide ok, by have := unhide HM; omega, Mem.end⟩
                case measure => simp [intOf]; omega
              · have e9 : ((s[m].toNat : Int) == ((⟨#[125, 13, 10]⟩ : ByteArray)[r].toNat : Int)) = false := byte_ne c9
                have p9 : ¬ (s[m].toNat : Int) = ((⟨#[125, 13, 10]⟩ : ByteArray)[r].toNat : Int) := beq_eq_false_iff_ne.1 e9
                have VV : Hid (V = (0, -1)) := by show V = _; rw [← unhide HC, unhide HD, unhide HR, endS, if_neg c9]
                clear HC HD HR c9 hm
                go_wp2
                refine mb 9 (fun M => ?_)
                refine tm 0 64 ?_; refine tm 1 65 ?_; refine tm 2 66 ?_; refine tm 3 67 ?_; refine tm 4 68 ?_; refine tm 5 69 ?_; refine tm 6 70 ?_; refine tm 7 71 ?_; refine tm 8 72 ?_
                refine td ?_
                go_wp2
                refine bodyPost_ret (by simp [results, Tryz.results54, go_sem]; try rfl) rfl ?_
                exact ⟨by rw [unhide VV]; rfl, M.below⟩
            · have hd : s.data.toList.drop m = [] := List.drop_eq_nil_of_le (by show s.size ≤ m; omega)
              have da : decide ((s.size : Int) ≤ (m : Int)) = true := decide_eq_true (by omega)
              have VV : Hid (V = (0, 0)) := by show V = _; rw [← unhide HC, hd, unhide HR, endS]
              clear HC HR hd hm
              go_wp2
              refine bodyPost_ret (by simp [results, Tryz.results54, go_sem]; try rfl) rfl ?_
              exact ⟨by rw [unhide VV]; rfl, M.below⟩
      · have d1 : decide ((k : Int) - (P : Int) ≤ 3) = true := decide_eq_true (by omega)
        obtain ⟨q, hq⟩ : ∃ q, 3 - j = q + 1 := ⟨2 - j, by omega⟩
        rw [hq] at HC
        by_cases h1 : 48 ≤ s[k].toNat
        · have d3 : decide ((48 : Int) ≤ (s[k].toNat : Int)) = true := decide_eq_true (by omega)
          by_cases h2 : s[k].toNat ≤ 57
          · have d4 : decide ((s[k].toNat : Int) ≤ 57) = true := decide_eq_true (by omega)
            have ok : Hid (figsS q (j + 1) (10 * N + (s[k].toNat : Int) - 48) ((k : Int) + 1) (s.data.toList.drop (k + 1)) = V) := by show _ = V; rw [← unhide HC, unhide HD, figs_on (by rw [unhide HF, decide_eq_true h1, decide_eq_true h2]; rfl)]
            have w4 : IntKind.i64.wrap (10 * N) = 10 * N := by rw [IntKind.wrap_i64]; omega
            have w5 : IntKind.i64.wrap (s[k].toNat : Int) = (s[k].toNat : Int) := by rw [IntKind.wrap_i64]; omega
            have w6 : IntKind.i64.wrap (10 * N + (s[k].toNat : Int)) = 10 * N + (s[k].toNat : Int) := by rw [IntKind.wrap_i64]; omega
            have w7 : IntKind.i64.wrap (10 * N + (s[k].toNat : Int) - 48) = 10 * N + (s[k].toNat : Int) - 48 := by rw [IntKind.wrap_i64]; omega
            have HKK := hide hkk
            clear HC HD HF hkk
            go_wp2
            have hkk := unhide HKK
            refine ⟨⟨j + 1, 10 * N + (s[k].toNat : Int) - 48, by omega, by omega, ⟨by omega, by omega, by omega, by omega, by omega⟩, by go_num, rfl, ?_⟩, by simp [intOf]; omega⟩
            rw [show 3 - (j + 1) = q by omega, show (P : Int) + 1 + ((j + 1 : Nat) : Int) = (k : Int) + 1 by omega, show P + 1 + (j + 1) = k + 1 by omega]
            exact unhide ok
          · have d4 : decide ((s[k].toNat : Int) ≤ 57) = false := decide_eq_false (by omega)
            have hf : figOk s[k] = false := by rw [unhide HF, decide_eq_false h2, Bool.and_false]
            by_cases h0 : j = 0
            · have d2 : ((k : Int) == (P : Int) + 1) = true := beq_iff_eq.2 (by omega)
              have VV : Hid (V = (0, -1)) := by show V = _; subst h0; rw [← unhide HC, unhide HD, figs_none hf]
              clear HC HD HF hkk h0 hf
              go_wp2
              refine bodyPost_ret (by simp [results, Tryz.results54, go_sem]; try rfl) rfl ?_
              exact ⟨by rw [unhide VV]; rfl, M.below⟩
            · have d2 : ((k : Int) == (P : Int) + 1) = false := beq_eq_false_iff_ne.2 (by omega)
              have HE : Hid (endS N (k : Int) [125, 13, 10] (s.data.toList.drop k) = V) := by show _ = V; rw [← unhide HC, unhide HD, figs_off (.inl hf) h0]
              clear HC HD HF hkk h0 hf
              go_wp2
              go_loopw [9] (fun e W => ∃ r : Nat, r ≤ 3 ∧ e = .int .i64 (r : Int) ∧ endS N (k : Int) (([125, 13, 10] : List UInt8).drop r) (s.data.toList.drop (k + r)) = V ∧ k + r ≤ s.size ∧ Mem w W []) (fun e _ => 3 - (intOf e).toNat)
              case atStart => exact ⟨0, by omega, rfl, unhide HE, hk, M⟩
              clear M HE
              case round =>
                obtain ⟨r, hr, rfl, hall, hkr, M⟩ := hrel
                have HC := hide hall
                clear hall
                obtain ⟨m, hm⟩ : ∃ m, m = k + r := ⟨_, rfl⟩
                have HM := hide hm
                rw [← hm] at HC hkr
                have w6 : IntKind.i64.wrap ((k : Int) + (r : Int)) = (m : Int) := by rw [IntKind.wrap_i64]; omega
                have w8 : IntKind.i64.wrap ((k : Int) + 3) = (k : Int) + 3 := by rw [IntKind.wrap_i64]; omega
                by_cases h9 : r = 3
                · have VV : Hid (V = (N, (k : Int) + 3)) := by show V = _; rw [← unhide HC, h9]; rfl
                  have d9 : decide ((r : Int) < 3) = false := decide_eq_false (by omega)
                  clear HC hm
                  go_wp2
                  refine bodyPost_ret (by simp [results, Tryz.results54, go_sem]; try rfl) rfl ?_
                  exact ⟨by rw [unhide VV]; rfl, M.below⟩
                · have d9 : decide ((r : Int) < 3) = true := decide_eq_true (by omega)
                  have hr3 : r < 3 := by omega
                  have w7 : IntKind.i64.wrap ((r : Int) + 1) = (r : Int) + 1 := by rw [IntKind.wrap_i64]; omega
                  have HR : Hid (([125, 13, 10] : List UInt8).drop r = (⟨#[125, 13, 10]⟩ : ByteArray)[r] :: ([125, 13, 10] : List UInt8).drop (r + 1)) := List.drop_eq_getElem_cons (l := ([125, 13, 10] : List UInt8)) hr3
                  have i7 : (0 : Int) ≤ (r : Int) := by omega
                  have i8 : (r : Int) < 3 := by omega
                  by_cases hlm : m < s.size
                  · have HD : Hid (s.data.toList.drop m = s[m] :: s.data.toList.drop (m + 1)) := List.drop_eq_getElem_cons (l := s.data.toList) hlm
                    have i5 : (0 : Int) ≤ (m : Int) := by omega
                    have i6 : (m : Int) < (s.size : Int) := by omega
                    have da : decide ((s.size : Int) ≤ (m : Int)) = false := decide_eq_false (by omega)
                    by_cases c9 : s[m] = (⟨#[125, 13, 10]⟩ : ByteArray)[r]
                    · have e9 : ((s[m].toNat : Int) == ((⟨#[125, 13, 10]⟩ : ByteArray)[r].toNat : Int)) = true := byte_eq2 c9
                      have p9 : (s[m].toNat : Int) = ((⟨#[125, 13, 10]⟩ : ByteArray)[r].toNat : Int) := beq_iff_eq.1 e9
                      have ok : Hid (endS N (k : Int) (([125, 13, 10] : List UInt8).drop (r + 1)) (s.data.toList.drop (m + 1)) = V) := by show _ = V; rw [← unhide HC, unhide HD, unhide HR, endS, if_pos c9]
                      clear HC HD HR c9 hm
                      go_wp2
                      refine mb 9 (fun M => ?_)
                      refine tm 0 64 ?_; refine tm 1 65 ?_; refine tm 2 66 ?_; refine tm 3 67 ?_; refine tm 4 68 ?_; refine tm 5 69 ?_; refine tm 6 70 ?_; refine tm 7 71 ?_; refine tm 8 72 ?_
                      refine td ?_
                      go_wp2
                      go_roundw
                      case rel => exact ⟨r + 1, by omega, by go_num, by rw [show k + (r + 1) = m + 1 by have := unhide HM; omega]; exact unhide ok, by have := unhide HM; omega, Mem.end⟩
                      case measure => simp [intOf]; omega
                    · have e9 : ((s[m].toNat : Int) == ((⟨#[125, 13, 10]⟩ : ByteArray)[r].toNat : Int)) = false := byte_ne c9
                      have p9 : ¬ (s[m].toNat : Int) = ((⟨#[125, 13, 10]⟩ : ByteArray)[r].toNat : Int) := beq_eq_false_iff_ne.1 e9
                      have VV : Hid (V = (0, -1)) := by show V = _; rw [← unhide HC, unhide HD, unhide HR, endS, if_neg c9]
                      clear HC HD HR c9 hm
                      go_wp2
                      refine mb 9 (fun M => ?_)
                      refine tm 0 64 ?_; refine tm 1 65 ?_; refine tm 2 66 ?_; refine tm 3 67 ?_; refine tm 4 68 ?_; refine tm 5 69 ?_; refine tm 6 70 ?_; refine tm 7 71 ?_; refine tm 8 72 ?_
                      refine td ?_
                      go_wp2
                      refine bodyPost_ret (by simp [results, Tryz.results54, go_sem]; try rfl) rfl ?_
                      exact ⟨by rw [unhide VV]; rfl, M.below⟩
                  · have hd : s.data.toList.drop m = [] := List.drop_eq_nil_of_le (by show s.size ≤ m; omega)
                    have da : decide ((s.size : Int) ≤ (m : Int)) = true := decide_eq_true (by omega)
                    have VV : Hid (V = (0, 0)) := by show V = _; rw [← unhide HC, hd, unhide HR, endS]
                    clear HC HR hd hm
                    go_wp2
                    refine bodyPost_ret (by simp [results, Tryz.results54, go_sem]; try rfl) rfl ?_
                    exact ⟨by rw [unhide VV]; rfl, M.below⟩
        · have d3 : decide ((48 : Int) ≤ (s[k].toNat : Int)) = false := decide_eq_false (by omega)
          have hf : figOk s[k] = false := by rw [unhide HF, decide_eq_false h1, Bool.false_and]
          by_cases h0 : j = 0
          · have d2 : ((k : Int) == (P : Int) + 1) = true := beq_iff_eq.2 (by omega)
            have VV : Hid (V = (0, -1)) := by show V = _; subst h0; rw [← unhide HC, unhide HD, figs_none hf]
            clear HC HD HF hkk h0 hf
            go_wp2
            refine bodyPost_ret (by simp [results, Tryz.results54, go_sem]; try rfl) rfl ?_
            exact ⟨by rw [unhide VV]; rfl, M.below⟩
          · have d2 : ((k : Int) == (P : Int) + 1) = false := beq_eq_false_iff_ne.2 (by omega)
            have HE : Hid (endS N (k : Int) [125, 13, 10] (s.data.toList.drop k) = V) := by show _ = V; rw [← unhide HC, unhide HD, figs_off (.inl hf) h0]
            clear HC HD HF hkk h0 hf
            go_wp2
            go_loopw [9] (fun e W => ∃ r : Nat, r ≤ 3 ∧ e = .int .i64 (r : Int) ∧ endS N (k : Int) (([125, 13, 10] : List UInt8).drop r) (s.data.toList.drop (k + r)) = V ∧ k + r ≤ s.size ∧ Mem w W []) (fun e _ => 3 - (intOf e).toNat)
            case atStart => exact ⟨0, by omega, rfl, unhide HE, hk, M⟩
            clear M HE
            case round =>
              obtain ⟨r, hr, rfl, hall, hkr, M⟩ := hrel
              have HC := hide hall
              clear hall
              obtain ⟨m, hm⟩ : ∃ m, m = k + r := ⟨_, rfl⟩
              have HM := hide hm
              rw [← hm] at HC hkr
              have w6 : IntKind.i64.wrap ((k : Int) + (r : Int)) = (m : Int) := by rw [IntKind.wrap_i64]; omega
              have w8 : IntKind.i64.wrap ((k : Int) + 3) = (k : Int) + 3 := by rw [IntKind.wrap_i64]; omega
              by_cases h9 : r = 3
              · have VV : Hid (V = (N, (k : Int) + 3)) := by show V = _; rw [← unhide HC, h9]; rfl
                have d9 : decide ((r : Int) < 3) = false := decide_eq_false (by omega)
                clear HC hm
                go_wp2
                refine bodyPost_ret (by simp [results, Tryz.results54, go_sem]; try rfl) rfl ?_
                exact ⟨by rw [unhide VV]; rfl, M.below⟩
              · have d9 : decide ((r : Int) < 3) = true := decide_eq_true (by omega)
                have hr3 : r < 3 := by omega
                have w7 : IntKind.i64.wrap ((r : Int) + 1) = (r : Int) + 1 := by rw [IntKind.wrap_i64]; omega
                have HR : Hid (([125, 13, 10] : List UInt8).drop r = (⟨#[125, 13, 10]⟩ : ByteArray)[r] :: ([125, 13, 10] : List UInt8).drop (r + 1)) := List.drop_eq_getElem_cons (l := ([125, 13, 10] : List UInt8)) hr3
                have i7 : (0 : Int) ≤ (r : Int) := by omega
                have i8 : (r : Int) < 3 := by omega
                by_cases hlm : m < s.size
                · have HD : Hid (s.data.toList.drop m = s[m] :: s.data.toList.drop (m + 1)) := List.drop_eq_getElem_cons (l := s.data.toList) hlm
                  have i5 : (0 : Int) ≤ (m : Int) := by omega
                  have i6 : (m : Int) < (s.size : Int) := by omega
                  have da : decide ((s.size : Int) ≤ (m : Int)) = false := decide_eq_false (by omega)
                  by_cases c9 : s[m] = (⟨#[125, 13, 10]⟩ : ByteArray)[r]
                  · have e9 : ((s[m].toNat : Int) == ((⟨#[125, 13, 10]⟩ : ByteArray)[r].toNat : Int)) = true := byte_eq2 c9
                    have p9 : (s[m].toNat : Int) = ((⟨#[125, 13, 10]⟩ : ByteArray)[r].toNat : Int) := beq_iff_eq.1 e9
                    have ok : Hid (endS N (k : Int) (([125, 13, 10] : List UInt8).drop (r + 1)) (s.data.toList.drop (m + 1)) = V) := by show _ = V; rw [← unhide HC, unhide HD, unhide HR, endS, if_pos c9]
                    clear HC HD HR c9 hm
                    go_wp2
                    refine mb 9 (fun M => ?_)
                    refine tm 0 64 ?_; refine tm 1 65 ?_; refine tm 2 66 ?_; refine tm 3 67 ?_; refine tm 4 68 ?_; refine tm 5 69 ?_; refine tm 6 70 ?_; refine tm 7 71 ?_; refine tm 8 72 ?_
                    refine td ?_
                    go_wp2
                    go_roundw
                    case rel => exact ⟨r + 1, by omega, by go_num, by rw [show k + (r + 1) = m + 1 by have := unhide HM; omega]; exact unhide ok, by have := unhide HM; omega, Mem.end⟩
                    case measure => simp [intOf]; omega
                  · have e9 : ((s[m].toNat : Int) == ((⟨#[125, 13, 10]⟩ : ByteArray)[r].toNat : Int)) = false := byte_ne c9
                    have p9 : ¬ (s[m].toNat : Int) = ((⟨#[125, 13, 10]⟩ : ByteArray)[r].toNat : Int) := beq_eq_false_iff_ne.1 e9
                    have VV : Hid (V = (0, -1)) := by show V = _; rw [← unhide HC, unhide HD, unhide HR, endS, if_neg c9]
                    clear HC HD HR c9 hm
                    go_wp2
                    refine mb 9 (fun M => ?_)
                    refine tm 0 64 ?_; refine tm 1 65 ?_; refine tm 2 66 ?_; refine tm 3 67 ?_; refine tm 4 68 ?_; refine tm 5 69 ?_; refine tm 6 70 ?_; refine tm 7 71 ?_; refine tm 8 72 ?_
                    refine td ?_
                    go_wp2
                    refine bodyPost_ret (by simp [results, Tryz.results54, go_sem]; try rfl) rfl ?_
                    exact ⟨by rw [unhide VV]; rfl, M.below⟩
                · have hd : s.data.toList.drop m = [] := List.drop_eq_nil_of_le (by show s.size ≤ m; omega)
                  have da : decide ((s.size : Int) ≤ (m : Int)) = true := decide_eq_true (by omega)
                  have VV : Hid (V = (0, 0)) := by show V = _; rw [← unhide HC, hd, unhide HR, endS]
                  clear HC HR hd hm
                  go_wp2
                  refine bodyPost_ret (by simp [results, Tryz.results54, go_sem]; try rfl) rfl ?_
                  exact ⟨by rw [unhide VV]; rfl, M.below⟩
    · have hd : s.data.toList.drop k = [] := List.drop_eq_nil_of_le (by show s.size ≤ k; omega)
      have d0 : decide ((k : Int) < (s.size : Int)) = false := decide_eq_false (by omega)
      have HE : Hid (endS N (k : Int) [125, 13, 10] (s.data.toList.drop k) = V) := by show _ = V; rw [← unhide HC, hd, figs_nil]; rfl
      clear HC hd hkk
      go_wp2
      go_loopw [9] (fun e W => ∃ r : Nat, r ≤ 3 ∧ e = .int .i64 (r : Int) ∧ endS N (k : Int) (([125, 13, 10] : List UInt8).drop r) (s.data.toList.drop (k + r)) = V ∧ k + r ≤ s.size ∧ Mem w W []) (fun e _ => 3 - (intOf e).toNat)
      case atStart => exact ⟨0, by omega, rfl, unhide HE, hk, M⟩
      clear M HE
      case round =>
        obtain ⟨r, hr, rfl, hall, hkr, M⟩ := hrel
        have HC := hide hall
        clear hall
        obtain ⟨m, hm⟩ : ∃ m, m = k + r := ⟨_, rfl⟩
        have HM := hide hm
        rw [← hm] at HC hkr
        have w6 : IntKind.i64.wrap ((k : Int) + (r : Int)) = (m : Int) := by rw [IntKind.wrap_i64]; omega
        have w8 : IntKind.i64.wrap ((k : Int) + 3) = (k : Int) + 3 := by rw [IntKind.wrap_i64]; omega
        by_cases h9 : r = 3
        · have VV : Hid (V = (N, (k : Int) + 3)) := by show V = _; rw [← unhide HC, h9]; rfl
          have d9 : decide ((r : Int) < 3) = false := decide_eq_false (by omega)
          clear HC hm
          go_wp2
          refine bodyPost_ret (by simp [results, Tryz.results54, go_sem]; try rfl) rfl ?_
          exact ⟨by rw [unhide VV]; rfl, M.below⟩
        · have d9 : decide ((r : Int) < 3) = true := decide_eq_true (by omega)
          have hr3 : r < 3 := by omega
          have w7 : IntKind.i64.wrap ((r : Int) + 1) = (r : Int) + 1 := by rw [IntKind.wrap_i64]; omega
          have HR : Hid (([125, 13, 10] : List UInt8).drop r = (⟨#[125, 13, 10]⟩ : ByteArray)[r] :: ([125, 13, 10] : List UInt8).drop (r + 1)) := List.drop_eq_getElem_cons (l := ([125, 13, 10] : List UInt8)) hr3
          have i7 : (0 : Int) ≤ (r : Int) := by omega
          have i8 : (r : Int) < 3 := by omega
          by_cases hlm : m < s.size
          · have HD : Hid (s.data.toList.drop m = s[m] :: s.data.toList.drop (m + 1)) := List.drop_eq_getElem_cons (l := s.data.toList) hlm
            have i5 : (0 : Int) ≤ (m : Int) := by omega
            have i6 : (m : Int) < (s.size : Int) := by omega
            have da : decide ((s.size : Int) ≤ (m : Int)) = false := decide_eq_false (by omega)
            by_cases c9 : s[m] = (⟨#[125, 13, 10]⟩ : ByteArray)[r]
            · have e9 : ((s[m].toNat : Int) == ((⟨#[125, 13, 10]⟩ : ByteArray)[r].toNat : Int)) = true := byte_eq2 c9
              have p9 : (s[m].toNat : Int) = ((⟨#[125, 13, 10]⟩ : ByteArray)[r].toNat : Int) := beq_iff_eq.1 e9
              have ok : Hid (endS N (k : Int) (([125, 13, 10] : List UInt8).drop (r + 1)) (s.data.toList.drop (m + 1)) = V) := by show _ = V; rw [← unhide HC, unhide HD, unhide HR, endS, if_pos c9]
              clear HC HD HR c9 hm
              go_wp2
              refine mb 9 (fun M => ?_)
              refine tm 0 64 ?_; refine tm 1 65 ?_; refine tm 2 66 ?_; refine tm 3 67 ?_; refine tm 4 68 ?_; refine tm 5 69 ?_; refine tm 6 70 ?_; refine tm 7 71 ?_; refine tm 8 72 ?_
              refine td ?_
              go_wp2
              go_roundw
              case rel => exact ⟨r + 1, by omega, by go_num, by rw [show k + (r + 1) = m + 1 by have := unhide HM; omega]; exact unhide ok, by have := unhide HM; omega, Mem.end⟩
              case measure => simp [intOf]; omega
            · have e9 : ((s[m].toNat : Int) == ((⟨#[125, 13, 10]⟩ : ByteArray)[r].toNat : Int)) = false := byte_ne c9
              have p9 : ¬ (s[m].toNat : Int) = ((⟨#[125, 13, 10]⟩ : ByteArray)[r].toNat : Int) := beq_eq_false_iff_ne.1 e9
              have VV : Hid (V = (0, -1)) := by show V = _; rw [← unhide HC, unhide HD, unhide HR, endS, if_neg c9]
              clear HC HD HR c9 hm
              go_wp2
              refine mb 9 (fun M => ?_)
              refine tm 0 64 ?_; refine tm 1 65 ?_; refine tm 2 66 ?_; refine tm 3 67 ?_; refine tm 4 68 ?_; refine tm 5 69 ?_; refine tm 6 70 ?_; refine tm 7 71 ?_; refine tm 8 72 ?_
              refine td ?_
              go_wp2
              refine bodyPost_ret (by simp [results, Tryz.results54, go_sem]; try rfl) rfl ?_
              exact ⟨by rw [unhide VV]; rfl, M.below⟩
          · have hd : s.data.toList.drop m = [] := List.drop_eq_nil_of_le (by show s.size ≤ m; omega)
            have da : decide ((s.size : Int) ≤ (m : Int)) = true := decide_eq_true (by omega)
            have VV : Hid (V = (0, 0)) := by show V = _; rw [← unhide HC, hd, unhide HR, endS]
            clear HC HR hd hm
            go_wp2
            refine bodyPost_ret (by simp [results, Tryz.results54, go_sem]; try rfl) rfl ?_
            exact ⟨by rw [unhide VV]; rfl, M.below⟩
end Go.Proofs.YtjaohlnejkgkaaaGreatDoor
namespace Go.Proofs.YtjaohlnejkgkaaaGreatDoor.Plain
set_option linter.unusedVariables false

theorem end_is (n p : Int) : ∀ (es v : List UInt8), (endS n p es v = (n, p + 3) ∧ es.length ≤ v.length) ∨ endS n p es v = (0, 0) ∨ endS n p es v = (0, -1) := by
  intro es
  induction es with
  | nil => intro v; exact .inl ⟨rfl, Nat.zero_le _⟩
  | cons e es ih =>
    intro v
    cases v with
    | nil => exact .inr (.inl rfl)
    | cons c v =>
      rw [endS]
      by_cases h : c = e
      · rw [if_pos h]
        rcases ih v with ⟨h1, h2⟩ | h1 | h1
        · exact .inl ⟨h1, by simp only [List.length_cons]; omega⟩
        · exact .inr (.inl h1)
        · exact .inr (.inr h1)
      · rw [if_neg h]; exact .inr (.inr rfl)
/-- What is read of a length: how great, and how far. -/
def FigB (M n p : Int) (v : List UInt8) (r : Int × Int) : Prop := (p + 3 ≤ r.2 ∧ r.2 ≤ p + v.length ∧ 0 ≤ r.1 ∧ r.1 ≤ M) ∨ r = (0, 0) ∨ r = (0, -1)
theorem fig_val {b : UInt8} (h : figOk b = true) : 0 ≤ (b.toNat : Int) - 48 ∧ (b.toNat : Int) - 48 ≤ 9 := by
  unfold figOk at h
  simp only [Bool.and_eq_true, decide_eq_true_eq] at h
  omega
theorem figs_stop (j : Nat) (n p : Int) (b : UInt8) (v : List UInt8) (hn : 0 ≤ n) : FigB n n p (b :: v) (if j = 0 then (0, -1) else endS n p [125, 13, 10] (b :: v)) := by
  split
  · exact .inr (.inr rfl)
  · rcases end_is n p [125, 13, 10] (b :: v) with ⟨h1, h2⟩ | h1 | h1
    · rw [h1]; exact .inl ⟨Int.le_refl _, by simp only [List.length_cons, List.length_nil] at h2 ⊢; omega, hn, Int.le_refl _⟩
    · exact .inr (.inl h1)
    · exact .inr (.inr h1)
theorem FigB.weak {M N n n' p p' : Int} {v v' : List UInt8} {r : Int × Int} (h : FigB M n p v r) (hM : M ≤ N) (hp : p' ≤ p) (hv : p + v.length ≤ p' + v'.length) : FigB N n' p' v' r := by
  rcases h with ⟨h1, h2, h3, h4⟩ | h | h
  · exact .inl ⟨by omega, by omega, h3, by omega⟩
  · exact .inr (.inl h)
  · exact .inr (.inr h)
theorem figs_b0 (j : Nat) (n p : Int) (v : List UInt8) (hn : 0 ≤ n) : FigB n n p v (figsS 0 j n p v) := by
  cases v with
  | nil => exact .inr (.inl rfl)
  | cons b v => rw [figsS]; exact figs_stop j n p b v hn
theorem figs_step {k : Nat} {M : Int → Int} (hM : ∀ n m, n ≤ m → M n ≤ M m) (ih : ∀ (j : Nat) (n p : Int) (v : List UInt8), 0 ≤ n → FigB (M n) n p v (figsS k j n p v)) (hge : ∀ n, 0 ≤ n → n ≤ M (10 * n + 9)) (j : Nat) (n p : Int) (v : List UInt8) (hn : 0 ≤ n) : FigB (M (10 * n + 9)) n p v (figsS (k + 1) j n p v) := by
  cases v with
  | nil => exact .inr (.inl rfl)
  | cons b v =>
    rw [figsS]
    by_cases h : figOk b = true
    · rw [if_pos h]
      have := fig_val h
      exact (ih (j + 1) (10 * n + (b.toNat : Int) - 48) (p + 1) v (by omega)).weak (hM _ _ (by omega)) (by omega) (by simp only [List.length_cons]; omega)
    · rw [if_neg h]
      exact (figs_stop j n p b v hn).weak (hge n hn) (Int.le_refl _) (Int.le_refl _)
theorem figs_b3 (p : Int) (v : List UInt8) : FigB 999 0 p v (figsS 3 0 0 p v) := by
  have b1 := figs_step (k := 0) (M := fun n => n) (fun n m h => h) figs_b0 (fun n h => by omega)
  have b2 := figs_step (k := 1) (M := fun n => 10 * n + 9) (fun n m h => by omega) b1 (fun n h => by omega)
  have b3 := figs_step (k := 2) (M := fun n => 10 * (10 * n + 9) + 9) (fun n m h => by omega) b2 (fun n h => by omega)
  exact (b3 0 0 p v (Int.le_refl _)).weak (by decide) (Int.le_refl _) (Int.le_refl _)
theorem text_b : ∀ (m : Nat) (v : List UInt8), v.length ≤ m → ∀ (x : List UInt8) (p : Int), (p + 1 ≤ (textS x p v).2 ∧ (textS x p v).2 ≤ p + v.length ∧ (textS x p v).1.length ≤ x.length + v.length) ∨ textS x p v = ([], 0) ∨ textS x p v = ([], -1) := by
  intro m
  induction m with
  | zero => intro v hv x p; obtain rfl := List.eq_nil_of_length_eq_zero (Nat.le_zero.1 hv); exact .inr (.inl (text_nil x p))
  | succ m ih =>
    intro v hv x p
    cases v with
    | nil => exact .inr (.inl (text_nil x p))
    | cons b v =>
      rw [List.length_cons] at hv
      by_cases h1 : b = 34
      · subst h1; rw [text_mark]; exact .inl ⟨Int.le_refl _, by simp only [List.length_cons]; omega, by simp⟩
      · cases h2 : prB b with
        | false => rw [text_bad h1 h2]; exact .inr (.inr rfl)
        | true =>
          by_cases h3 : b = 92
          · subst h3
            cases v with
            | nil => exact .inr (.inl (text_end x p))
            | cons c v =>
              by_cases h4 : c = 34 ∨ c = 92
              · rw [text_esc h4]
                rw [List.length_cons] at hv
                rcases ih v (by omega) (x ++ [c]) (p + 2) with ⟨a, b, d⟩ | h | h
                · exact .inl ⟨by omega, by simp only [List.length_cons]; omega, by simp only [List.length_append, List.length_cons, List.length_nil] at d ⊢; omega⟩
                · exact .inr (.inl h)
                · exact .inr (.inr h)
              · rw [text_esc_no h4]; exact .inr (.inr rfl)
          · rw [text_other h1 h2 h3]
            rcases ih v (by omega) (x ++ [b]) (p + 1) with ⟨a, b, d⟩ | h | h
            · exact .inl ⟨by omega, by simp only [List.length_cons]; omega, by simp only [List.length_append, List.length_cons, List.length_nil] at d ⊢; omega⟩
            · exact .inr (.inl h)
            · exact .inr (.inr h)
theorem scan_b : ∀ (v : List UInt8) (st : Bool) (n k : Nat), ((k : Int) + 1 ≤ scanL st n k v ∧ scanL st n k v ≤ k + v.length) ∨ scanL st n k v = 0 ∨ scanL st n k v = -1 := by
  intro v
  induction v with
  | nil => intro st n k; exact .inr (.inl rfl)
  | cons b v ih =>
    intro st n k
    rw [scanL]
    split
    · split
      · exact .inr (.inr rfl)
      · exact .inl ⟨Int.le_refl _, by simp only [List.length_cons]; omega⟩
    · split
      · split
        · exact .inr (.inr rfl)
        · rcases ih false 0 (k + 1) with ⟨a, b⟩ | h | h
          · exact .inl ⟨by omega, by simp only [List.length_cons]; omega⟩
          · exact .inr (.inl h)
          · exact .inr (.inr h)
      · split
        · exact .inr (.inr rfl)
        · rcases ih false (n + 1) (k + 1) with ⟨a, b⟩ | h | h
          · exact .inl ⟨by omega, by simp only [List.length_cons]; omega⟩
          · exact .inr (.inl h)
          · exact .inr (.inr h)
theorem span_le : ∀ (v : List UInt8), spanS v ≤ v.length := by
  intro v
  induction v with
  | nil => exact Nat.le_refl _
  | cons b v ih => rw [spanS]; split <;> simp only [List.length_cons] <;> omega
/-- How far a word reaches. -/
theorem next_b (p : Nat) (u : List UInt8) : ((p : Int) + 1 ≤ (nextW p u).2 ∧ (nextW p u).2 ≤ p + u.length ∧ (nextW p u).1.length ≤ u.length) ∨ (nextW p u).2 = 0 ∨ (nextW p u).2 = -1 := by
  cases u with
  | nil => exact .inr (.inl rfl)
  | cons b v =>
    unfold nextW
    dsimp only
    have hv : (b :: v).length = v.length + 1 := rfl
    split
    · rcases figs_b3 ((p : Int) + 1) v with ⟨h1, h2, h3, h4⟩ | h | h
      · rw [if_neg (by omega)]
        split
        · exact .inr (.inr rfl)
        · split
          · exact .inr (.inl rfl)
          · refine .inl ⟨?_, ?_, ?_⟩
            · show (p : Int) + 1 ≤ _ + _; omega
            · show _ + _ ≤ _; rw [hv]; omega
            · rw [List.length_take, List.length_drop]; omega
      · rw [if_pos (by rw [h]; decide), h]; exact .inr (.inl rfl)
      · rw [if_pos (by rw [h]; decide), h]; exact .inr (.inr rfl)
    · split
      · rcases text_b v.length v (Nat.le_refl _) [] ((p : Int) + 1) with ⟨h1, h2, h3⟩ | h | h
        · exact .inl ⟨by omega, by rw [hv]; omega, by rw [hv]; simp only [List.length_nil] at h3; omega⟩
        · rw [h]; exact .inr (.inl rfl)
        · rw [h]; exact .inr (.inr rfl)
      · split
        · rcases scan_b v true 0 (p + 1) with ⟨h1, h2⟩ | h | h
          · rw [if_neg (by omega)]
            refine .inl ⟨by show (p : Int) + 1 ≤ scanL true 0 (p + 1) v; omega, by show scanL true 0 (p + 1) v ≤ _; rw [hv]; omega, by rw [List.length_take]; omega⟩
          · rw [if_pos (by omega), h]; exact .inr (.inl rfl)
          · rw [if_pos (by omega), h]; exact .inr (.inr rfl)
        · have := span_le (b :: v)
          split
          · exact .inr (.inr rfl)
          · refine .inl ⟨?_, ?_, ?_⟩
            · show (p : Int) + 1 ≤ (p : Int) + _; omega
            · show (p : Int) + _ ≤ _; omega
            · rw [List.length_take]; omega
end Go.Proofs.YtjaohlnejkgkaaaGreatDoor.Plain
namespace Go.Proofs.YtjaohlnejkgkaaaGreatDoor
open Go.RowKit
open Plain
set_option linter.unusedVariables false
set_option linter.unusedSimpArgs false
attribute [local go_sem] cell_of frozen_of

namespace Plain
theorem ext_text (s : ByteArray) (a b : Nat) : s.extract a b = ⟨((s.data.toList.drop a).take (b - a)).toArray⟩ := by
  apply ByteArray.ext
  apply Array.toList_inj.1
  rw [Lib.extract_data]
theorem next_nil (p : Nat) : nextW p [] = ([], 0) := rfl
theorem next_lit_0 {p : Nat} {v : List UInt8} {r : Int × Int} (hr : figsS 3 0 0 ((p : Int) + 1) v = r) (h : r.2 ≤ 0) : nextW p (123 :: v) = ([], r.2) := by
  unfold nextW; dsimp only; rw [hr, if_pos rfl, if_pos h]
theorem next_lit_1 {p : Nat} {v : List UInt8} {r : Int × Int} (hr : figsS 3 0 0 ((p : Int) + 1) v = r) (h : ¬ r.2 ≤ 0) (h1 : 300 < r.2 + r.1 + 2) : nextW p (123 :: v) = ([], -1) := by
  unfold nextW; dsimp only; rw [hr, if_pos rfl, if_neg h, if_pos h1]
theorem next_lit_2 {p : Nat} {v : List UInt8} {r : Int × Int} (hr : figsS 3 0 0 ((p : Int) + 1) v = r) (h : ¬ r.2 ≤ 0) (h1 : ¬ 300 < r.2 + r.1 + 2) (h2 : (p : Int) + (v.length + 1) - r.2 < r.1) : nextW p (123 :: v) = ([], 0) := by
  unfold nextW; dsimp only; rw [hr, if_pos rfl, if_neg h, if_neg h1, if_pos h2]
theorem next_lit_3 {p : Nat} {v : List UInt8} {r : Int × Int} (hr : figsS 3 0 0 ((p : Int) + 1) v = r) (h : ¬ r.2 ≤ 0) (h1 : ¬ 300 < r.2 + r.1 + 2) (h2 : ¬ (p : Int) + (v.length + 1) - r.2 < r.1) : nextW p (123 :: v) = ((((123 : UInt8) :: v).drop (r.2 - p).toNat).take r.1.toNat, r.2 + r.1) := by
  unfold nextW; dsimp only; rw [hr, if_pos rfl, if_neg h, if_neg h1, if_neg h2]
theorem next_text (p : Nat) (v : List UInt8) : nextW p (34 :: v) = textS [] ((p : Int) + 1) v := by
  unfold nextW; dsimp only; rw [if_neg (by decide), if_pos rfl]
theorem next_list_0 {p : Nat} {v : List UInt8} {r : Int} (hr : scanL true 0 (p + 1) v = r) (h : r ≤ 0) : nextW p (40 :: v) = ([], r) := by
  unfold nextW; dsimp only; rw [hr, if_neg (by decide), if_neg (by decide), if_pos rfl, if_pos h]
theorem next_list_1 {p : Nat} {v : List UInt8} {r : Int} (hr : scanL true 0 (p + 1) v = r) (h : ¬ r ≤ 0) : nextW p (40 :: v) = (((40 : UInt8) :: v).take (r - p).toNat, r) := by
  unfold nextW; dsimp only; rw [hr, if_neg (by decide), if_neg (by decide), if_pos rfl, if_neg h]
theorem next_plain {p : Nat} {b : UInt8} {v : List UInt8} (h1 : b ≠ 123) (h2 : b ≠ 34) (h3 : b ≠ 40) : nextW p (b :: v) = if spanS (b :: v) = 0 ∨ 60 < spanS (b :: v) then ([], -1) else ((b :: v).take (spanS (b :: v)), (p : Int) + spanS (b :: v)) := by
  unfold nextW; dsimp only; rw [if_neg h1, if_neg h2, if_neg h3]
theorem span_at : ∀ (u : List UInt8) (k : Nat), k ≤ spanS u → spanS u = k + spanS (u.drop k) := by
  intro u
  induction u with
  | nil => intro k h; obtain rfl : k = 0 := Nat.le_zero.1 h; rfl
  | cons b v ih =>
    intro k h
    cases k with
    | zero => simp
    | succ k =>
      rw [spanS] at h ⊢
      split
      · rename_i hb; rw [if_pos hb] at h; rw [List.drop_succ_cons, ih k (by omega)]; omega
      · rename_i hb; rw [if_neg hb] at h; omega
theorem span_on {b : UInt8} {v : List UInt8} (h : plB b = true) : spanS (b :: v) = spanS v + 1 := by rw [spanS, if_pos h]
theorem span_off {b : UInt8} {v : List UInt8} (h : plB b = false) : spanS (b :: v) = 0 := by rw [spanS, if_neg (by rw [h]; decide)]
end Plain
set_option maxHeartbeats 4000000 in
set_option maxRecDepth 100000 in
theorem spec_Next (s : ByteArray) (P : Nat) (w : World) (hs : s.size ≤ 4194304) (hP : P ≤ s.size) :
    Calls Tryz.prog 29 #[.string s, .int .i64 (P : Int)] w fun e w' => e = .returned (intT (nextW P (s.data.toList.drop P))) ∧ Below w.heap.size w w' := by
  by_cases h0 : P < s.size
  · have HD : Hid (s.data.toList.drop P = s[P] :: s.data.toList.drop (P + 1)) := List.drop_eq_getElem_cons (l := s.data.toList) h0
    have HLN : Hid ((s.data.toList.drop (P + 1)).length = s.size - (P + 1)) := List.length_drop
    have i0 : decide ((s.size : Int) ≤ (P : Int)) = false := decide_eq_false (by omega)
    have i0n : decide (s.size ≤ P) = false := decide_eq_false (by omega)
    have i1 : (0 : Int) ≤ (P : Int) := by omega
    have i2 : (P : Int) < (s.size : Int) := by omega
    by_cases c1 : s[P] = 123
    · have d1 : ((s[P].toNat : Int) == 123) = true := byte_eq2 c1
      have Q1 := hide (spec_Literal s P w hs h0)
      have B3 := figs_b3 ((P : Int) + 1) (s.data.toList.drop (P + 1))
      obtain ⟨⟨fn, fx⟩, hr⟩ : ∃ r, figsS 3 0 0 ((P : Int) + 1) (s.data.toList.drop (P + 1)) = r := ⟨_, rfl⟩
      rw [hr] at Q1 B3
      have HR := hide hr
      unfold intL at Q1
      dsimp only at Q1
      rw [unhide HD, c1]
      by_cases f0 : fx ≤ 0
      · have VV := hide (next_lit_0 (p := P) (unhide HR) f0)
        have d2 : decide (fx ≤ 0) = true := decide_eq_true f0
        clear hr HR HD HLN B3 c1
        go_enter Tryz.func29, Tryz.ntmps29
        go_wp2_with (go_at_call 54; refine (unhide Q1).mono ?_; rintro e w1 ⟨rfl, hb⟩)
        refine bodyPost_ret (by simp [results, Tryz.results29, go_sem]; try rfl) rfl ?_
        exact ⟨by rw [unhide VV]; rfl, hb⟩
      · have d2 : decide (fx ≤ 0) = false := decide_eq_false f0
        have B4 : 0 ≤ fn ∧ fn ≤ 999 ∧ (P : Int) + 4 ≤ fx ∧ fx ≤ (s.size : Int) := by
          have hl := unhide HLN
          rcases B3 with ⟨a, b, c, d⟩ | h | h
          · dsimp only at a b c d; exact ⟨c, d, by omega, by omega⟩
          · cases h; omega
          · cases h; omega
        obtain ⟨n, hn⟩ : ∃ n : Nat, fn = n := ⟨fn.toNat, by omega⟩
        obtain ⟨x, hx⟩ : ∃ x : Nat, fx = x := ⟨fx.toNat, by omega⟩
        subst hn
        subst hx
        have w2 : IntKind.i64.wrap ((x : Int) + (n : Int)) = (x : Int) + (n : Int) := by rw [IntKind.wrap_i64]; omega
        have w3 : IntKind.i64.wrap ((x : Int) + (n : Int) + 2) = (x : Int) + (n : Int) + 2 := by rw [IntKind.wrap_i64]; omega
        have w4 : IntKind.i64.wrap ((s.size : Int) - (x : Int)) = (s.size : Int) - (x : Int) := by rw [IntKind.wrap_i64]; omega
        by_cases f1 : 300 < (x : Int) + (n : Int) + 2
        · have VV := hide (next_lit_1 (p := P) (unhide HR) f0 f1)
          have d3 : decide ((300 : Int) < (x : Int) + (n : Int) + 2) = true := decide_eq_true f1
          clear hr HR HD HLN B3 c1 B4
          go_enter Tryz.func29, Tryz.ntmps29
          go_wp2_with (go_at_call 54; refine (unhide Q1).mono ?_; rintro e w1 ⟨rfl, hb⟩)
          refine bodyPost_ret (by simp [results, Tryz.results29, go_sem]; try rfl) rfl ?_
          exact ⟨by rw [unhide VV]; rfl, hb⟩
        · have d3 : decide ((300 : Int) < (x : Int) + (n : Int) + 2) = false := decide_eq_false f1
          have hsz : (P : Int) + ((s.data.toList.drop (P + 1)).length + 1) = (s.size : Int) := by have := unhide HLN; omega
          by_cases f2 : (s.size : Int) - (x : Int) < (n : Int)
          · have VV := hide (next_lit_2 (p := P) (unhide HR) f0 f1 (by rw [hsz]; exact f2))
            have d4 : decide ((s.size : Int) - (x : Int) < (n : Int)) = true := decide_eq_true f2
            clear hr HR HD HLN B3 c1 B4 hsz
            go_enter Tryz.func29, Tryz.ntmps29
            go_wp2_with (go_at_call 54; refine (unhide Q1).mono ?_; rintro e w1 ⟨rfl, hb⟩)
            refine bodyPost_ret (by simp [results, Tryz.results29, go_sem]; try rfl) rfl ?_
            exact ⟨by rw [unhide VV]; rfl, hb⟩
          · have VV := hide (next_lit_3 (p := P) (unhide HR) f0 f1 (by rw [hsz]; exact f2))
            have d4 : decide ((s.size : Int) - (x : Int) < (n : Int)) = false := decide_eq_false f2
            have EX : Hid (s.extract x (x + n) = ⟨((((123 : UInt8) :: s.data.toList.drop (P + 1)).drop ((x : Int) - P).toNat).take (n : Int).toNat).toArray⟩) := by
              show _ = _
              rw [ext_text, ← c1, ← unhide HD, List.drop_drop, show P + ((x : Int) - (P : Int)).toNat = x by omega, show x + n - x = (n : Int).toNat by omega]
            have i4 : (0 : Int) ≤ (x : Int) := by omega
            have i5 : (x : Int) ≤ (x : Int) + (n : Int) := by omega
            have i6 : (x : Int) + (n : Int) ≤ (s.size : Int) := by omega
            have i7 : x ≤ x + n := by omega
            have i8 : x + n ≤ s.size := by omega
            clear hr HR HD HLN B3 c1 B4 hsz
            go_enter Tryz.func29, Tryz.ntmps29
            go_wp2_with (go_at_call 54; refine (unhide Q1).mono ?_; rintro e w1 ⟨rfl, hb⟩)
            refine bodyPost_ret (by simp [results, Tryz.results29, go_sem]; try rfl) rfl ?_
            exact ⟨by rw [unhide VV, unhide EX]; rfl, hb⟩
    · have d1 : ((s[P].toNat : Int) == 123) = false := byte_ne c1
      by_cases c2 : s[P] = 34
      · have d2 : ((s[P].toNat : Int) == 34) = true := byte_eq2 c2
        have Q1 := hide (spec_Text s P w hs h0)
        have VV := hide (next_text P (s.data.toList.drop (P + 1)))
        rw [unhide HD, c2]
        obtain ⟨⟨tx, tn⟩, hV⟩ : ∃ V, textS [] ((P : Int) + 1) (s.data.toList.drop (P + 1)) = V := ⟨_, rfl⟩
        rw [hV] at Q1 VV
        unfold intT at Q1
        dsimp only at Q1
        clear HD HLN c1 c2 hV
        go_enter Tryz.func29, Tryz.ntmps29
        go_wp2_with (go_at_call 55; refine (unhide Q1).mono ?_; rintro e w1 ⟨rfl, hw⟩; subst w1)
        refine bodyPost_ret (by simp [results, Tryz.results29, go_sem]; try rfl) rfl ?_
        exact ⟨by rw [unhide VV]; rfl, Below.refl _ _⟩
      · have d2 : ((s[P].toNat : Int) == 34) = false := byte_ne c2
        by_cases c3 : s[P] = 40
        · have d3 : ((s[P].toNat : Int) == 40) = true := byte_eq2 c3
          have Q1 := hide (spec_list s P w hs h0)
          rw [unhide HD, c3]
          have B3 := scan_b (s.data.toList.drop (P + 1)) true 0 (P + 1)
          obtain ⟨fx, hr⟩ : ∃ r, scanL true 0 (P + 1) (s.data.toList.drop (P + 1)) = r := ⟨_, rfl⟩
          rw [hr] at Q1 B3
          have HR := hide hr
          by_cases f0 : fx ≤ 0
          · have VV := hide (next_list_0 (p := P) (unhide HR) f0)
            have d4 : decide (fx ≤ 0) = true := decide_eq_true f0
            clear hr HR HD HLN B3 c1 c2 c3
            go_enter Tryz.func29, Tryz.ntmps29
            go_wp2_with (go_at_call 39; refine (unhide Q1).mono ?_; rintro e w1 ⟨rfl, hw⟩; subst w1)
            refine bodyPost_ret (by simp [results, Tryz.results29, go_sem]; try rfl) rfl ?_
            exact ⟨by rw [unhide VV]; rfl, Below.refl _ _⟩
          · have d4 : decide (fx ≤ 0) = false := decide_eq_false f0
            have B4 : (P : Int) + 2 ≤ fx ∧ fx ≤ (s.size : Int) := by have := unhide HLN; omega
            obtain ⟨x, hx⟩ : ∃ x : Nat, fx = x := ⟨fx.toNat, by omega⟩
            subst hx
            have VV := hide (next_list_1 (p := P) (unhide HR) f0)
            have EX : Hid (s.extract P x = ⟨(((40 : UInt8) :: s.data.toList.drop (P + 1)).take ((x : Int) - P).toNat).toArray⟩) := by
              show _ = _
              rw [ext_text, ← c3, ← unhide HD, show x - P = ((x : Int) - (P : Int)).toNat by omega]
            have i4 : (P : Int) ≤ (x : Int) := by omega
            have i5 : (x : Int) ≤ (s.size : Int) := by omega
            have i6 : P ≤ x := by omega
            have i7 : x ≤ s.size := by omega
            clear hr HR HD HLN B3 c1 c2 c3 B4
            go_enter Tryz.func29, Tryz.ntmps29
            go_wp2_with (go_at_call 39; refine (unhide Q1).mono ?_; rintro e w1 ⟨rfl, hw⟩; subst w1)
            refine bodyPost_ret (by simp [results, Tryz.results29, go_sem]; try rfl) rfl ?_
            exact ⟨by rw [unhide VV, unhide EX]; rfl, Below.refl _ _⟩
        · have d3 : ((s[P].toNat : Int) == 40) = false := byte_ne c3
          have VV := hide (next_plain (p := P) (b := s[P]) (v := s.data.toList.drop (P + 1)) c1 c2 c3)
          rw [← unhide HD] at VV
          have SL := span_le (s.data.toList.drop P)
          rw [List.length_drop] at SL
          have SZ : spanS (s.data.toList.drop P) ≤ s.size - P := SL
          have SA := hide (span_at (s.data.toList.drop P))
          generalize nextW P (s.data.toList.drop P) = V at *
          obtain ⟨L, hL⟩ : ∃ L, spanS (s.data.toList.drop P) = L := ⟨_, rfl⟩
          rw [hL] at SZ SA VV
          clear HD HLN c1 c2 c3 hL SL
          go_enter Tryz.func29, Tryz.ntmps29
          go_wp2
          go_loop [9] (fun i => ∃ k : Nat, k ≤ L ∧ i = .int .i64 ((P : Int) + k)) (fun i => s.size - (intOf i).toNat)
          case atStart => exact ⟨0, Nat.zero_le _, by simp⟩
          case round =>
            obtain ⟨k, hk, rfl⟩ := hrel
            obtain ⟨m, hm⟩ : ∃ m, m = P + k := ⟨_, rfl⟩
            have em : (P : Int) + (k : Int) = (m : Int) := by omega
            rw [em]
            have HM := hide hm
            have HSA := hide (unhide SA k hk)
            have w1 : IntKind.i64.wrap ((m : Int) + 1) = (m : Int) + 1 := by rw [IntKind.wrap_i64]; omega
            have w2 : IntKind.i64.wrap ((m : Int) - (P : Int)) = (k : Int) := by rw [IntKind.wrap_i64]; omega
            have TAIL : Hid (L = k → V = if k = 0 ∨ 60 < k then ([], -1) else ((s.data.toList.drop P).take k, (m : Int))) := by
              intro e
              rw [unhide VV, e, em]
            by_cases hlt : m < s.size
            · have HD2 : Hid ((s.data.toList.drop P).drop k = s[m] :: s.data.toList.drop (m + 1)) := by show _ = _; rw [List.drop_drop, ← hm]; exact List.drop_eq_getElem_cons (l := s.data.toList) hlt
              have i4 : (0 : Int) ≤ (m : Int) := by omega
              have i5 : (m : Int) < (s.size : Int) := by omega
              have QB := hide (fun W => spec_byte s[m] W)
              cases hp : plB s[m] with
              | true =>
                rw [hp] at QB
                have hk2 : k + 1 ≤ L := by have := unhide HSA; rw [unhide HD2, span_on hp] at this; omega
                clear em HSA TAIL HD2 hp hm
                go_wp2_with (go_at_call 56; refine (unhide QB _).mono ?_; rintro e w1 ⟨rfl, hw⟩; subst w1)
                have hm := unhide HM
                exact ⟨⟨k + 1, hk2, by go_num⟩, by simp [intOf]; omega⟩
              | false =>
                rw [hp] at QB
                have e : L = k := by have := unhide HSA; rw [unhide HD2, span_off hp] at this; omega
                have TT := hide (unhide TAIL e)
                by_cases z0 : k = 0
                · have d4 : ((m : Int) == (P : Int)) = true := beq_iff_eq.2 (by omega)
                  have VE : Hid (V = ([], -1)) := (unhide TT).trans (if_pos (.inl z0))
                  clear TT z0 em HSA TAIL HD2 hp hm e
                  go_wp2_with (go_at_call 56; refine (unhide QB _).mono ?_; rintro e w1 ⟨rfl, hw⟩; subst w1)
                  refine bodyPost_ret (by simp [results, Tryz.results29, go_sem]; try rfl) rfl ?_
                  exact ⟨by rw [unhide VE]; rfl, Below.refl _ _⟩
                · have d4 : ((m : Int) == (P : Int)) = false := beq_eq_false_iff_ne.2 (by omega)
                  by_cases z1 : 60 < k
                  · have d5 : decide ((60 : Int) < (k : Int)) = true := decide_eq_true (by omega)
                    have VE : Hid (V = ([], -1)) := (unhide TT).trans (if_pos (.inr z1))
                    clear TT z0 em HSA TAIL HD2 hp hm e
                    go_wp2_with (go_at_call 56; refine (unhide QB _).mono ?_; rintro e w1 ⟨rfl, hw⟩; subst w1)
                    refine bodyPost_ret (by simp [results, Tryz.results29, go_sem]; try rfl) rfl ?_
                    exact ⟨by rw [unhide VE]; rfl, Below.refl _ _⟩
                  · have d5 : decide ((60 : Int) < (k : Int)) = false := decide_eq_false (by omega)
                    have VE : Hid (V = ((s.data.toList.drop P).take k, (m : Int))) := (unhide TT).trans (if_neg (fun h => h.elim z0 z1))
                    have EX : Hid (s.extract P m = ⟨((s.data.toList.drop P).take k).toArray⟩) := by show _ = _; rw [ext_text, show m - P = k by omega]
                    have j4 : (P : Int) ≤ (m : Int) := by omega
                    have j5 : (m : Int) ≤ (s.size : Int) := by omega
                    have j6 : P ≤ m := by omega
                    have j7 : m ≤ s.size := by omega
                    clear TT z0 em HSA TAIL HD2 hp hm e
                    go_wp2_with (go_at_call 56; refine (unhide QB _).mono ?_; rintro e w1 ⟨rfl, hw⟩; subst w1)
                    refine bodyPost_ret (by simp [results, Tryz.results29, go_sem]; try rfl) rfl ?_
                    exact ⟨by rw [unhide VE, unhide EX]; rfl, Below.refl _ _⟩
            · have i5 : decide ((m : Int) < (s.size : Int)) = false := decide_eq_false (by omega)
              have e : L = k := by omega
              have TT := hide (unhide TAIL e)
              by_cases z0 : k = 0
              · have d4 : ((m : Int) == (P : Int)) = true := beq_iff_eq.2 (by omega)
                have VE : Hid (V = ([], -1)) := (unhide TT).trans (if_pos (.inl z0))
                clear TT z0 em HSA TAIL hm e
                go_wp2
                refine bodyPost_ret (by simp [results, Tryz.results29, go_sem]; try rfl) rfl ?_
                exact ⟨by rw [unhide VE]; rfl, Below.refl _ _⟩
              · have d4 : ((m : Int) == (P : Int)) = false := beq_eq_false_iff_ne.2 (by omega)
                by_cases z1 : 60 < k
                · have d5 : decide ((60 : Int) < (k : Int)) = true := decide_eq_true (by omega)
                  have VE : Hid (V = ([], -1)) := (unhide TT).trans (if_pos (.inr z1))
                  clear TT z0 em HSA TAIL hm e
                  go_wp2
                  refine bodyPost_ret (by simp [results, Tryz.results29, go_sem]; try rfl) rfl ?_
                  exact ⟨by rw [unhide VE]; rfl, Below.refl _ _⟩
                · have d5 : decide ((60 : Int) < (k : Int)) = false := decide_eq_false (by omega)
                  have VE : Hid (V = ((s.data.toList.drop P).take k, (m : Int))) := (unhide TT).trans (if_neg (fun h => h.elim z0 z1))
                  have EX : Hid (s.extract P m = ⟨((s.data.toList.drop P).take k).toArray⟩) := by show _ = _; rw [ext_text, show m - P = k by omega]
                  have j4 : (P : Int) ≤ (m : Int) := by omega
                  have j5 : (m : Int) ≤ (s.size : Int) := by omega
                  have j6 : P ≤ m := by omega
                  have j7 : m ≤ s.size := by omega
                  clear TT z0 em HSA TAIL hm e
                  go_wp2
                  refine bodyPost_ret (by simp [results, Tryz.results29, go_sem]; try rfl) rfl ?_
                  exact ⟨by rw [unhide VE, unhide EX]; rfl, Below.refl _ _⟩
  · obtain rfl : P = s.size := by omega
    have hd : s.data.toList.drop s.size = [] := List.drop_eq_nil_of_le (by show s.size ≤ s.size; omega)
    have i0 : decide ((s.size : Int) ≤ (s.size : Int)) = true := decide_eq_true (Int.le_refl _)
    have VV : Hid (nextW s.size (s.data.toList.drop s.size) = ([], 0)) := by show _ = _; rw [hd]; rfl
    clear hd
    go_enter Tryz.func29, Tryz.ntmps29
    go_wp2
    refine bodyPost_ret (by simp [results, Tryz.results29, go_sem]; try rfl) rfl ?_
    exact ⟨by rw [unhide VV]; rfl, Below.refl _ _⟩
end Go.Proofs.YtjaohlnejkgkaaaGreatDoor
namespace Go.Proofs.YtjaohlnejkgkaaaGreatDoor
open Go.RowKit
open Plain
set_option linter.unusedVariables false
set_option linter.unusedSimpArgs false
attribute [local go_sem] cell_of frozen_of

theorem Tryz.infoSt2 : (Tryz.prog.info? 9).map (fun i => (i.zero, i.size, i.bytes)) = some (some (.string ByteArray.empty), 1, 16) := by kernel_rfl
instance Tryz.elemSt2 : Elem Tryz.prog 25 9 1 16 := ⟨Tryz.underlying25, by
  obtain ⟨i0, hi, hz0, hz1, hz2⟩ := info_parts Tryz.infoSt2
  exact ⟨i0, _, hi, hz0, hz1, hz2, rfl, by decide⟩⟩
namespace Plain
theorem read_0 {f p : Nat} {out : List (List UInt8)} {u x : List UInt8} {n : Int} (hr : nextW p u = (x, n)) (h : n ≤ 0) : readW (f + 1) p out u = (out, n) := by
  rw [readW, hr, if_pos h]
theorem read_on {f p : Nat} {out : List (List UInt8)} {u x : List UInt8} {n : Int} (hr : nextW p u = (x, n)) (h : ¬ n ≤ 0) : readW (f + 1) p out u = match u.drop (n - p).toNat with
      | [] => (out ++ [x], 0)
      | c :: v => if c = 13 then (match v with
          | [] => (out ++ [x], 0)
          | d :: _ => if d = 10 then (out ++ [x], n + 2) else (out ++ [x], -1))
        else if c ≠ 32 ∨ out.length + 1 = 12 then (out ++ [x], -1) else readW f (n.toNat + 1) (out ++ [x]) v := by
  first | (rw [readW, hr, if_neg h]; done) | (rw [readW, hr, if_neg h]; rfl)
theorem len_snoc2 {α : Type} (l : List α) (x : α) : (l ++ [x]).length = l.length + 1 := by simp
theorem strs_snoc2 (l : List (List UInt8)) (x : List UInt8) : strs (l ++ [x]) = strs l ++ [.string ⟨x.toArray⟩] := strs_append l [x]
end Plain
def SpRow (w : World) (V : List (List UInt8) × Int) (e : Ending) (W : World) : Prop := ∃ a c, e = .returned (.tuple #[.slice a V.1.length c, .int .i64 V.2]) ∧ Mem w W [.row a V.1.length c 9 1 (strs V.1)]
def SpAns (w : World) (V : List (List UInt8) × Int × Int) (e : Ending) (W : World) : Prop := ∃ a c, e = .returned (.tuple #[.slice a V.1.length c, .int .i64 V.2.1, .int .i64 V.2.2]) ∧ Mem w W [.row a V.1.length c 9 1 (strs V.1)]
theorem SpAns.out {w W : World} {V : List (List UInt8) × Int × Int} {e : Ending} (h : SpAns w V e W) : ∃ a c, e = .returned (.tuple #[.slice a V.1.length c, .int .i64 V.2.1, .int .i64 V.2.2]) ∧ Mem w W [.row a V.1.length c 9 1 (strs V.1)] := h
set_option maxHeartbeats 4000000 in
set_option maxRecDepth 100000 in
theorem spec_Read (s : ByteArray) (w : World) (hs : s.size ≤ 4194304) :
    Calls Tryz.prog 19 #[.string s] w fun e w' => SpRow w (readW 12 0 [] s.data.toList) e w' := by
  obtain ⟨V, hV⟩ : ∃ V, readW 12 0 [] s.data.toList = V := ⟨_, rfl⟩
  rw [hV]
  have HV := hide hV
  clear hV
  have M := Mem.start w
  go_enter Tryz.func19, Tryz.ntmps19
  go_wp2
  go_loopw [4, 5] (fun o i W => ∃ (f P : Nat) (out : List (List UInt8)) (ab : Option Addr) (cap : Nat), P ≤ s.size ∧ Hid (out.length + f = 11) ∧ o = .slice ab out.length cap ∧ i = .int .i64 (P : Int) ∧ readW (f + 1) P out (s.data.toList.drop P) = V ∧ Mem w W [.row ab out.length cap 9 1 (strs out)]) (fun _ i _ => s.size + 1 - (intOf i).toNat)
  case atStart =>
    have M2 := Mem.asRow (W := w.alloc (.cells #[] 9)) (w := w) (b := w.heap.size) (t := 9) 1
    exact ⟨11, 0, [], some ⟨w.heap.size, 0, none⟩, 0, Nat.zero_le _, rfl, rfl, rfl, unhide HV, show Mem w _ [.row (some ⟨w.heap.size, 0, none⟩) 0 0 9 1 []] from Mem.end (M := M2)⟩
  clear M
  case round =>
    obtain ⟨f, P, out, ab, cap, hP, HOL, rfl, rfl, hall, M⟩ := hrel
    have HC := hide hall
    clear hall HV
    have QN := hide (fun W => spec_Next s P W hs hP)
    have B := next_b P (s.data.toList.drop P)
    have hdl : (s.data.toList.drop P).length = s.size - P := List.length_drop
    rw [hdl] at B
    obtain ⟨⟨x, nx⟩, hr⟩ : ∃ r, nextW P (s.data.toList.drop P) = r := ⟨_, rfl⟩
    rw [hr] at B QN
    have HR := hide hr
    unfold intT at QN
    dsimp only at QN B
    clear hr hdl
    by_cases h0 : nx ≤ 0
    · have VV : Hid (V = (out, nx)) := by show V = _; rw [← unhide HC]; exact read_0 (unhide HR) h0
      have d0 : decide (nx ≤ 0) = true := decide_eq_true h0
      clear HC HR B
      go_wp2_with (refine (unhide QN _).mono ?_; rintro e w5 ⟨rfl, hb⟩; have M := Mem.go hb; clear hb)
      refine bodyPost_ret (by simp [results, Tryz.results19, go_sem]; try rfl) rfl ?_
      rw [unhide VV]
      exact ⟨ab, cap, rfl, Mem.end⟩
    · have d0 : decide (nx ≤ 0) = false := decide_eq_false h0
      obtain ⟨n, hn⟩ : ∃ n : Nat, nx = n := ⟨nx.toNat, by omega⟩
      subst hn
      have B2 : P + 1 ≤ n ∧ n ≤ s.size := by omega
      have VO : Hid (V = match s.data.toList.drop n with
          | [] => (out ++ [x], 0)
          | c :: v => if c = 13 then (match v with
              | [] => (out ++ [x], 0)
              | d :: _ => if d = 10 then (out ++ [x], (n : Int) + 2) else (out ++ [x], -1))
            else if c ≠ 32 ∨ out.length + 1 = 12 then (out ++ [x], -1) else readW f (n + 1) (out ++ [x]) v) := by
        show V = _
        rw [← unhide HC, read_on (unhide HR) h0, List.drop_drop, show P + ((n : Int) - (P : Int)).toNat = n by omega]
        rfl
      have HN := hide (len_snoc2 out x)
      have HS := hide (strs_snoc2 out x)
      clear HC HR B
      by_cases hl : n = s.size
      · have hd : s.data.toList.drop n = [] := List.drop_eq_nil_of_le (by show s.size ≤ n; omega)
        rw [hd] at VO
        have d1 : ((n : Int) == (s.size : Int)) = true := beq_iff_eq.2 (by omega)
        have VV : Hid (V = (out ++ [x], 0)) := by show V = _; rw [unhide VO]
        clear VO hd hl
        go_wp2_with (first | (go_at_call 29; refine (unhide QN _).mono ?_; rintro e w5 ⟨rfl, hb⟩; have M := Mem.go hb; clear hb) | (refine mem_append_l rfl (.tmp 19) (.tmp 21) 25 (strs out) _ [.string ⟨x.toArray⟩] rfl rfl rfl (by simp [Value.oneCell']) (by rfl) (by have := unhide HOL; omega) (by decide) ?_; intro g2 cap2 w6 M; try dsimp only at M))
        refine bodyPost_ret (by simp [results, Tryz.results19, go_sem]; try rfl) rfl ?_
        rw [unhide VV]
        exact ⟨some ⟨g2, 0, none⟩, cap2, by rw [unhide HN], by show Mem w _ [.row (some ⟨g2, 0, none⟩) (out ++ [x]).length cap2 9 1 (strs (out ++ [x]))]; rw [unhide HN, unhide HS]; exact Mem.end⟩
      · have d1 : ((n : Int) == (s.size : Int)) = false := beq_eq_false_iff_ne.2 (by omega)
        have hlt : n < s.size := by omega
        have hd : s.data.toList.drop n = s[n] :: s.data.toList.drop (n + 1) := List.drop_eq_getElem_cons (l := s.data.toList) hlt
        rw [hd] at VO
        dsimp only at VO
        have j1 : (0 : Int) ≤ (n : Int) := by omega
        have j2 : (n : Int) < (s.size : Int) := by omega
        have w2 : IntKind.i64.wrap ((n : Int) + 2) = (n : Int) + 2 := by rw [IntKind.wrap_i64]; omega
        obtain ⟨m, hm⟩ : ∃ m, m = n + 1 := ⟨_, rfl⟩
        have w1 : IntKind.i64.wrap ((n : Int) + 1) = (m : Int) := by rw [IntKind.wrap_i64]; omega
        rw [← hm] at VO
        have HM := hide hm
        by_cases c1 : s[n] = 13
        · have d2 : ((s[n].toNat : Int) == 13) = true := byte_eq2 c1
          rw [if_pos c1] at VO
          by_cases hl2 : m = s.size
          · have hd2 : s.data.toList.drop m = [] := List.drop_eq_nil_of_le (by show s.size ≤ m; omega)
            rw [hd2] at VO
            have d3 : ((m : Int) == (s.size : Int)) = true := beq_iff_eq.2 (by omega)
            have VV : Hid (V = (out ++ [x], 0)) := by show V = _; rw [unhide VO]
            clear VO hd hd2 hl hl2 c1 hm
            go_wp2_with (first | (go_at_call 29; refine (unhide QN _).mono ?_; rintro e w5 ⟨rfl, hb⟩; have M := Mem.go hb; clear hb) | (refine mem_append_l rfl (.tmp 19) (.tmp 21) 25 (strs out) _ [.string ⟨x.toArray⟩] rfl rfl rfl (by simp [Value.oneCell']) (by rfl) (by have := unhide HOL; omega) (by decide) ?_; intro g2 cap2 w6 M; try dsimp only at M))
            refine bodyPost_ret (by simp [results, Tryz.results19, go_sem]; try rfl) rfl ?_
            rw [unhide VV]
            exact ⟨some ⟨g2, 0, none⟩, cap2, by rw [unhide HN], by show Mem w _ [.row (some ⟨g2, 0, none⟩) (out ++ [x]).length cap2 9 1 (strs (out ++ [x]))]; rw [unhide HN, unhide HS]; exact Mem.end⟩
          · have d3 : ((m : Int) == (s.size : Int)) = false := beq_eq_false_iff_ne.2 (by omega)
            have hlt2 : m < s.size := by omega
            have hd2 : s.data.toList.drop m = s[m] :: s.data.toList.drop (m + 1) := List.drop_eq_getElem_cons (l := s.data.toList) hlt2
            rw [hd2] at VO
            dsimp only at VO
            have j3 : (0 : Int) ≤ (m : Int) := by omega
            have j4 : (m : Int) < (s.size : Int) := by omega
            by_cases c2 : s[m] = 10
            · have d4 : ((s[m].toNat : Int) == 10) = true := byte_eq2 c2
              have p4 : (s[m].toNat : Int) = 10 := beq_iff_eq.1 d4
              rw [if_pos c2] at VO
              have VV : Hid (V = (out ++ [x], (n : Int) + 2)) := by show V = _; rw [unhide VO]
              clear VO hd hd2 hl hl2 c1 c2 hm
              go_wp2_with (first | (go_at_call 29; refine (unhide QN _).mono ?_; rintro e w5 ⟨rfl, hb⟩; have M := Mem.go hb; clear hb) | (refine mem_append_l rfl (.tmp 19) (.tmp 21) 25 (strs out) _ [.string ⟨x.toArray⟩] rfl rfl rfl (by simp [Value.oneCell']) (by rfl) (by have := unhide HOL; omega) (by decide) ?_; intro g2 cap2 w6 M; try dsimp only at M))
              refine bodyPost_ret (by simp [results, Tryz.results19, go_sem]; try rfl) rfl ?_
              rw [unhide VV]
              exact ⟨some ⟨g2, 0, none⟩, cap2, by rw [unhide HN], by show Mem w _ [.row (some ⟨g2, 0, none⟩) (out ++ [x]).length cap2 9 1 (strs (out ++ [x]))]; rw [unhide HN, unhide HS]; exact Mem.end⟩
            · have d4 : ((s[m].toNat : Int) == 10) = false := byte_ne c2
              have p4 : ¬ (s[m].toNat : Int) = 10 := beq_eq_false_iff_ne.1 d4
              have n4 : ((s[m].toNat : Int) != 10) = true := bne_iff_ne.2 p4
              rw [if_neg c2] at VO
              have VV : Hid (V = (out ++ [x], -1)) := by show V = _; rw [unhide VO]
              clear VO hd hd2 hl hl2 c1 c2 hm
              go_wp2_with (first | (go_at_call 29; refine (unhide QN _).mono ?_; rintro e w5 ⟨rfl, hb⟩; have M := Mem.go hb; clear hb) | (refine mem_append_l rfl (.tmp 19) (.tmp 21) 25 (strs out) _ [.string ⟨x.toArray⟩] rfl rfl rfl (by simp [Value.oneCell']) (by rfl) (by have := unhide HOL; omega) (by decide) ?_; intro g2 cap2 w6 M; try dsimp only at M))
              refine bodyPost_ret (by simp [results, Tryz.results19, go_sem]; try rfl) rfl ?_
              rw [unhide VV]
              exact ⟨some ⟨g2, 0, none⟩, cap2, by rw [unhide HN], by show Mem w _ [.row (some ⟨g2, 0, none⟩) (out ++ [x]).length cap2 9 1 (strs (out ++ [x]))]; rw [unhide HN, unhide HS]; exact Mem.end⟩
        · have d2 : ((s[n].toNat : Int) == 13) = false := byte_ne c1
          rw [if_neg c1] at VO
          by_cases c2 : s[n] = 32
          · have d3 : ((s[n].toNat : Int) == 32) = true := byte_eq2 c2
            have p3 : (s[n].toNat : Int) = 32 := beq_iff_eq.1 d3
            by_cases h12 : out.length + 1 = 12
            · rw [if_pos (.inr h12)] at VO
              have d4 : ((out.length : Int) + 1 == 12) = true := beq_iff_eq.2 (by omega)
              have q4 : (((out.length + 1 : Nat) : Int) == 12) = true := beq_iff_eq.2 (by omega)
              have VV : Hid (V = (out ++ [x], -1)) := by show V = _; rw [unhide VO]
              clear VO hd hl c1 c2 hm h12
              go_wp2_with (first | (go_at_call 29; refine (unhide QN _).mono ?_; rintro e w5 ⟨rfl, hb⟩; have M := Mem.go hb; clear hb) | (refine mem_append_l rfl (.tmp 19) (.tmp 21) 25 (strs out) _ [.string ⟨x.toArray⟩] rfl rfl rfl (by simp [Value.oneCell']) (by rfl) (by have := unhide HOL; omega) (by decide) ?_; intro g2 cap2 w6 M; try dsimp only at M))
              refine bodyPost_ret (by simp [results, Tryz.results19, go_sem]; try rfl) rfl ?_
              rw [unhide VV]
              exact ⟨some ⟨g2, 0, none⟩, cap2, by rw [unhide HN], by show Mem w _ [.row (some ⟨g2, 0, none⟩) (out ++ [x]).length cap2 9 1 (strs (out ++ [x]))]; rw [unhide HN, unhide HS]; exact Mem.end⟩
            · rw [if_neg (fun h => h.elim (fun h => h c2) h12)] at VO
              have d4 : ((out.length : Int) + 1 == 12) = false := beq_eq_false_iff_ne.2 (by omega)
              have q4 : (((out.length + 1 : Nat) : Int) == 12) = false := beq_eq_false_iff_ne.2 (by omega)
              have hf : 1 ≤ f := by have : out.length + f = 11 := HOL; omega
              clear hd hl c1 c2 hm h12
              go_wp2_with (first | (go_at_call 29; refine (unhide QN _).mono ?_; rintro e w5 ⟨rfl, hb⟩; have M := Mem.go hb; clear hb) | (refine mem_append_l rfl (.tmp 19) (.tmp 21) 25 (strs out) _ [.string ⟨x.toArray⟩] rfl rfl rfl (by simp [Value.oneCell']) (by rfl) (by have := unhide HOL; omega) (by decide) ?_; intro g2 cap2 w6 M; try dsimp only at M))
              go_roundw
              case rel =>
                refine ⟨f - 1, m, out ++ [x], some ⟨g2, 0, none⟩, cap2, by have := unhide HM; omega, ?_, by rw [unhide HN], by go_num, ?_, by rw [unhide HN, unhide HS]; exact Mem.end⟩
                · show (out ++ [x]).length + (f - 1) = 11
                  have : out.length + f = 11 := HOL
                  rw [unhide HN]; omega
                · rw [show f - 1 + 1 = f by omega]; exact (unhide VO).symm
              case measure => have := unhide HM; simp [intOf]; omega
          · have d3 : ((s[n].toNat : Int) == 32) = false := byte_ne c2
            have p3 : ¬ (s[n].toNat : Int) = 32 := beq_eq_false_iff_ne.1 d3
            have n3 : ((s[n].toNat : Int) != 32) = true := bne_iff_ne.2 p3
            rw [if_pos (.inl c2)] at VO
            have VV : Hid (V = (out ++ [x], -1)) := by show V = _; rw [unhide VO]
            clear VO hd hl c1 c2 hm
            go_wp2_with (first | (go_at_call 29; refine (unhide QN _).mono ?_; rintro e w5 ⟨rfl, hb⟩; have M := Mem.go hb; clear hb) | (refine mem_append_l rfl (.tmp 19) (.tmp 21) 25 (strs out) _ [.string ⟨x.toArray⟩] rfl rfl rfl (by simp [Value.oneCell']) (by rfl) (by have := unhide HOL; omega) (by decide) ?_; intro g2 cap2 w6 M; try dsimp only at M))
            refine bodyPost_ret (by simp [results, Tryz.results19, go_sem]; try rfl) rfl ?_
            rw [unhide VV]
            exact ⟨some ⟨g2, 0, none⟩, cap2, by rw [unhide HN], by show Mem w _ [.row (some ⟨g2, 0, none⟩) (out ++ [x]).length cap2 9 1 (strs (out ++ [x]))]; rw [unhide HN, unhide HS]; exact Mem.end⟩
set_option maxHeartbeats 4000000 in
set_option maxRecDepth 100000 in
theorem spec_ReadCommand_any (s : ByteArray) (w : World) (hs : s.size ≤ 4194304) :
    Calls Tryz.prog 7 #[.string s] w fun e w' => SpAns w (spV s.data.toList) e w' := by
  have Q := hide (spec_Read s w hs)
  have HV : Hid (spV s.data.toList = if 0 < (readW 12 0 [] s.data.toList).2 ∧ (readW 12 0 [] s.data.toList).2 ≤ 300 then ((readW 12 0 [] s.data.toList).1, (readW 12 0 [] s.data.toList).2, 0) else if (readW 12 0 [] s.data.toList).2 = 0 ∧ s.size < 300 then ([], 0, 1) else ([], 0, 2)) := rfl
  obtain ⟨⟨ws, n⟩, hr⟩ : ∃ r, readW 12 0 [] s.data.toList = r := ⟨_, rfl⟩
  rw [hr] at HV Q
  dsimp only at HV
  generalize spV s.data.toList = V at *
  have M := Mem.start w
  clear hr
  by_cases h1 : 0 < n
  · have d1 : decide ((0 : Int) < n) = true := decide_eq_true h1
    by_cases h2 : n ≤ 300
    · have d2 : decide (n ≤ 300) = true := decide_eq_true h2
      have VV := hide ((unhide HV).trans (if_pos ⟨h1, h2⟩))
      clear HV h1 h2
      go_enter Tryz.func7, Tryz.ntmps7
      go_wp2_with (go_at_call 19; refine (unhide Q).mono ?_; rintro e w5 ⟨a, c, rfl, M⟩; try dsimp only at M ⊢)
      refine bodyPost_ret (by simp [results, Tryz.results7, go_sem]; try rfl) rfl ?_
      rw [unhide VV]
      exact ⟨a, c, rfl, Mem.end⟩
    · have d2 : decide (n ≤ 300) = false := decide_eq_false h2
      have d3 : (n == 0) = false := beq_eq_false_iff_ne.2 (by omega)
      have VV := hide ((unhide HV).trans ((if_neg (fun h => h2 h.2)).trans (if_neg (fun h => by have := h.1; omega))))
      clear HV h1 h2
      go_enter Tryz.func7, Tryz.ntmps7
      go_wp2_with (go_at_call 19; refine (unhide Q).mono ?_; rintro e w5 ⟨a, c, rfl, M⟩; try dsimp only at M ⊢)
      refine bodyPost_ret (by simp [results, Tryz.results7, go_sem]; try rfl) rfl ?_
      rw [unhide VV]
      have M2 := Mem.asRow (W := w5.alloc (.cells #[] 9)) (w := w) (b := w5.heap.size) (t := 9) 1
      exact ⟨some ⟨w5.heap.size, 0, none⟩, 0, rfl, show Mem w _ [.row (some ⟨w5.heap.size, 0, none⟩) 0 0 9 1 []] from Mem.end (M := M2)⟩
  · have d1 : decide ((0 : Int) < n) = false := decide_eq_false h1
    by_cases h3 : n = 0
    · have d3 : (n == 0) = true := beq_iff_eq.2 h3
      by_cases h4 : s.size < 300
      · have d4 : decide ((s.size : Int) < 300) = true := decide_eq_true (by omega)
        have VV := hide ((unhide HV).trans ((if_neg (fun h => h1 h.1)).trans (if_pos ⟨h3, h4⟩)))
        clear HV h1 h3 h4
        go_enter Tryz.func7, Tryz.ntmps7
        go_wp2_with (go_at_call 19; refine (unhide Q).mono ?_; rintro e w5 ⟨a, c, rfl, M⟩; try dsimp only at M ⊢)
        refine bodyPost_ret (by simp [results, Tryz.results7, go_sem]; try rfl) rfl ?_
        rw [unhide VV]
        have M2 := Mem.asRow (W := w5.alloc (.cells #[] 9)) (w := w) (b := w5.heap.size) (t := 9) 1
        exact ⟨some ⟨w5.heap.size, 0, none⟩, 0, rfl, show Mem w _ [.row (some ⟨w5.heap.size, 0, none⟩) 0 0 9 1 []] from Mem.end (M := M2)⟩
      · have d4 : decide ((s.size : Int) < 300) = false := decide_eq_false (by omega)
        have VV := hide ((unhide HV).trans ((if_neg (fun h => h1 h.1)).trans (if_neg (fun h => h4 h.2))))
        clear HV h1 h3 h4
        go_enter Tryz.func7, Tryz.ntmps7
        go_wp2_with (go_at_call 19; refine (unhide Q).mono ?_; rintro e w5 ⟨a, c, rfl, M⟩; try dsimp only at M ⊢)
        refine bodyPost_ret (by simp [results, Tryz.results7, go_sem]; try rfl) rfl ?_
        rw [unhide VV]
        have M2 := Mem.asRow (W := w5.alloc (.cells #[] 9)) (w := w) (b := w5.heap.size) (t := 9) 1
        exact ⟨some ⟨w5.heap.size, 0, none⟩, 0, rfl, show Mem w _ [.row (some ⟨w5.heap.size, 0, none⟩) 0 0 9 1 []] from Mem.end (M := M2)⟩
    · have d3 : (n == 0) = false := beq_eq_false_iff_ne.2 h3
      have VV := hide ((unhide HV).trans ((if_neg (fun h => h1 h.1)).trans (if_neg (fun h => h3 h.1))))
      clear HV h1 h3
      go_enter Tryz.func7, Tryz.ntmps7
      go_wp2_with (go_at_call 19; refine (unhide Q).mono ?_; rintro e w5 ⟨a, c, rfl, M⟩; try dsimp only at M ⊢)
      refine bodyPost_ret (by simp [results, Tryz.results7, go_sem]; try rfl) rfl ?_
      rw [unhide VV]
      have M2 := Mem.asRow (W := w5.alloc (.cells #[] 9)) (w := w) (b := w5.heap.size) (t := 9) 1
      exact ⟨some ⟨w5.heap.size, 0, none⟩, 0, rfl, show Mem w _ [.row (some ⟨w5.heap.size, 0, none⟩) 0 0 9 1 []] from Mem.end (M := M2)⟩
end Go.Proofs.YtjaohlnejkgkaaaGreatDoor
