/- The records of a file, as the specification reads them. -/
import Derived.Test.YtnlcknklghalkaaDoorFrameAt
import Derived.Test.YtnlcknklghalkaaDoorStrPlain
import Derived.Test.YtnlcknklghalkaaDoorMarks
namespace Go.Proofs.YtnlcknklghalkaaDoor
open Go.RowKit
open Plain
set_option linter.unusedVariables false

namespace Plain
/-- The frames that a file begins with; none of one that is too long. -/
def unL (l : List UInt8) : List (List UInt8 × Nat) := if l.length ≤ 20000 then frs l 0 else []
theorem unL_in {l : List UInt8} (h : l.length ≤ 20000) : unL l = frs l 0 := if_pos h
theorem unL_long {l : List UInt8} (h : ¬ l.length ≤ 20000) : unL l = [] := if_neg h
theorem unL_len (l : List UInt8) : (unL l).length ≤ 20000 := by
  unfold unL
  split
  · have := frs_length l 0; omega
  · exact Nat.zero_le _
def recs (x : List (List UInt8 × Nat)) : List (List UInt8) := x.map (·.1)
theorem recs_len (x : List (List UInt8 × Nat)) : (recs x).length = x.length := by simp [recs]
theorem recs_snoc (x : List (List UInt8 × Nat)) (y : List UInt8 × Nat) : recs (x ++ [y]) = recs x ++ [y.1] := by simp [recs]
/-- Behind some rounds: these have come, from A on the others come. -/
def FrInv (l : List UInt8) (pre : List (List UInt8 × Nat)) (A : Nat) : Prop := pre ++ frs l A = frs l 0 ∧ A = endL pre ∧ A ≤ l.length
theorem FrInv.start (l : List UInt8) : FrInv l [] 0 := ⟨rfl, rfl, Nat.zero_le _⟩
theorem FrInv.step {l : List UInt8} {pre : List (List UInt8 × Nat)} {A e : Nat} {t : List UInt8} (h : FrInv l pre A) (hf : frL l A = some (t, e)) : FrInv l (pre ++ [(t, e)]) e := by
  obtain ⟨h1, h2, h3⟩ := h
  have := frL_some hf
  refine ⟨?_, by rw [endL_snoc], by omega⟩
  rw [← h1, frs_some hf]; simp
theorem FrInv.done {l : List UInt8} {pre : List (List UInt8 × Nat)} {A : Nat} (h : FrInv l pre A) (hf : frL l A = none) : pre = frs l 0 ∧ A = endL (frs l 0) := by
  obtain ⟨h1, h2, h3⟩ := h
  rw [frs_none hf, List.append_nil] at h1
  exact ⟨h1, by rw [← h1]; exact h2⟩
theorem FrInv.lt {l : List UInt8} {pre : List (List UInt8 × Nat)} {A e : Nat} {t : List UInt8} (h : FrInv l pre A) (hf : frL l A = some (t, e)) : pre.length < (frs l 0).length := by
  rw [← h.1, frs_some hf]; simp
theorem FrInv.len {l : List UInt8} {pre : List (List UInt8 × Nat)} {A : Nat} (h : FrInv l pre A) : pre.length ≤ l.length := by
  have h1 := congrArg List.length h.1
  have := frs_length l 0
  rw [List.length_append] at h1
  omega
end Plain

/-- What both Unframe leave. -/
def UnLeft (l : List UInt8) (w : World) (e : Ending) (w' : World) : Prop :=
  ∃ v, e = .returned (.tuple #[v, .int .i64 (endL (unL l) : Int)]) ∧ w'.ownsRow w.heap.size 9 1 v (unL l).length (strs (recs (unL l))) ∧ Below w.heap.size w w'

theorem Tryd.infoStrF : (Tryd.prog.info? 9).map (fun i => (i.zero, i.size, i.bytes)) = some (some (.string ByteArray.empty), 1, 16) := by kernel_rfl
theorem news_strF {w : World} (v : Value) : ∀ j u, ([v] : List Value)[j]? = some u → (w.alloc (.cells #[v] 9)).cell? ((⟨w.heap.size, 0, none⟩ : Addr).add j) = some u := by
  intro j u hj
  match j, hj with
  | 0, hj => simp at hj; subst hj; simp [Addr.add]

set_option maxHeartbeats 1000000 in
theorem spec_Unframe_long (s : ByteArray) (w : World) (h : 20000 < s.size) (hs : s.size ≤ 1048576) : Calls Tryd.prog 13 #[.string s] w (UnLeft s.data.toList w) := by
  have e := hide (unL_long (l := s.data.toList) (by show ¬ s.size ≤ 20000; omega))
  go_enter Tryd.func13, Tryd.ntmps13
  go_wp2
  go_ret2
  refine ⟨_, by rw [unhide e]; rfl, ?_, (Below.refl _ _).alloc (Nat.le_refl _) _⟩
  rw [unhide e]
  exact World.ownsRow_lit _ #[] 0 (Nat.le_refl _) (Nat.zero_le _) rfl

set_option maxHeartbeats 4000000 in
set_option maxRecDepth 100000 in
theorem spec_Unframe_in (s : ByteArray) (w : World) (hs : s.size ≤ 20000) : Calls Tryd.prog 13 #[.string s] w (UnLeft s.data.toList w) := by
  obtain ⟨i0, hi, hz0, hz1, hz2⟩ := info_parts Tryd.infoStrF
  have hun := hide (unL_in (l := s.data.toList) hs)
  unfold UnLeft
  rw [unhide hun]
  have hls : s.data.toList.length = s.size := rfl
  have hls' := hide hls
  clear hls
  go_enter Tryd.func13, Tryd.ntmps13
  go_wp2
  go_loopw [4, 5] (fun v a wr => ∃ (A : Nat) (pre : List (List UInt8 × Nat)), a = .int .i64 A ∧ A ≤ s.size ∧ FrInv s.data.toList pre A ∧ wr.ownsRow w.heap.size 9 1 v pre.length (strs (recs pre)) ∧ w.heap.size ≤ wr.heap.size ∧ Below w.heap.size w wr)
    (fun _ a _ => s.size - (intOf a).toNat)
  case atStart => exact ⟨0, [], rfl, Nat.zero_le _, FrInv.start _, World.ownsRow_lit w #[] 0 (Nat.le_refl _) (Nat.zero_le _) rfl, by simp, (Below.refl _ _).alloc (Nat.le_refl _) _⟩
  case round =>
    obtain ⟨A, pre, rfl, hA, hinv, hown, hsz, hbel⟩ := hrel
    have hpl : pre.length ≤ s.size := hinv.len
    have fin : Hid (frL s.data.toList A = none → wr.ownsRow w.heap.size 9 1 u4 (frs s.data.toList 0).length (strs (recs (frs s.data.toList 0))) ∧ A = endL (frs s.data.toList 0)) := fun h => by
      obtain ⟨e1, e2⟩ := hinv.done h
      rw [← e1] at e2 ⊢
      exact ⟨hown, e2⟩
    by_cases hlt : A < s.size
    · cases hr : rdL 5 [] (s.data.toList.drop A) with
      | none =>
        have hn := hide (frL_none hr)
        have q := spec_ReadVar_in s A wr (by omega) hA
        rw [hr] at q
        simp only [rvV] at q
        have Q := hide q
        clear hr hinv hown q
        go_wp2_with fail
        refine (unhide Q).mono ?_
        rintro e w1 ⟨rfl, hb1⟩
        have f2 := hide (unhide fin (unhide hn))
        clear fin hn Q
        go_wp2
        go_ret2
        exact ⟨_, by rw [← (unhide f2).2]; rfl, own_below (unhide f2).1 hb1, hbel.trans (hb1.mono hsz)⟩
      | some p =>
        obtain ⟨n, d⟩ := p
        have hd := rd_le hr
        rw [List.length_drop] at hd
        have hdn : n ≤ 1000000000 := hd.2.2
        have hAd : A + d ≤ s.size := by have := unhide hls'; simp at hd; omega
        have hd1 : 1 ≤ d := hd.2.1
        clear hd
        have q := spec_ReadVar_in s A wr (by omega) hA
        rw [hr] at q
        simp only [rvV] at q
        have Q := hide q
        have HR := hide hr
        clear hr q
        obtain ⟨F, hF⟩ : ∃ F, F = A + d := ⟨_, rfl⟩
        have HF := hide hF
        rw [← hF] at hAd Q
        have hFA : A < F := by omega
        clear hF
        by_cases hl : F + 4 + n ≤ s.size
        · have d1 : decide ((s.size : Int) - F - 4 < n) = false := by simp; omega
          have hI0 : (0 : Int) ≤ (A : Int) := by omega
          have hI1 : (0 : Int) ≤ (F : Int) + 4 := by omega
          have hI2 : (F : Int) + 4 ≤ (F : Int) + 4 + n := by omega
          have hI3 : (F : Int) + 4 + n ≤ (s.size : Int) := by omega
          have hI4 : (A : Int) ≤ (F : Int) + 4 + n := by omega
          have hz : (s.extract (F + 4) (F + 4 + n)).size = n := by rw [ByteArray.size_extract]; omega
          by_cases hn : 1 ≤ n ∧ n ≤ 9000
          · obtain ⟨hn1, hn2⟩ := hn
            have qf := hide (fun W => spec_Frame_yes (s.extract (F + 4) (F + 4 + n)) W (by omega) (by omega))
            have e0 := ext_seg2 s (F + 4) (F + 4 + n)
            rw [e0] at qf
            have hsame := hide (frame_same (l := s.data.toList) (unhide HR) (by rw [← unhide HF, unhide hls']; exact hl))
            have hyes := hide (frL_yes (l := s.data.toList) (A := A) (unhide HR) (by rw [← unhide HF, unhide hls']; exact hl) hn1 hn2)
            have hno := hide (fun (h : ¬ four (sumOf (seg s.data.toList (A + d + 4) (A + d + 4 + n))) = seg s.data.toList (A + d) (A + d + 4)) => frL_no (l := s.data.toList) (A := A) (unhide HR) (fun x => h x.2.2.2))
            rw [← unhide HF] at hsame hyes hno
            have HI := hide hinv
            have es := hide (ext_str s (F + 4) (F + 4 + n))
            have O := hide hown
            clear hinv hown e0 hz
            go_wp2_with fail
            refine (unhide Q).mono ?_
            rintro e w1 ⟨rfl, hb1⟩
            have HB1 := hide hb1
            clear hb1
            go_wp2_with fail
            refine (unhide qf _).mono ?_
            rintro e w2 ⟨rfl, hb2⟩
            have O2 := hide (own_below (own_below (unhide O) (unhide HB1)) hb2)
            have hb12 : Below w.heap.size w w2 := (hbel.trans ((unhide HB1).mono hsz)).trans (hb2.mono (by have := (unhide HB1).size; omega))
            have BB := hide hb12
            have hs2 : w.heap.size ≤ w2.heap.size := hb12.size
            have B02 := hide (below2 (unhide HB1) hb2)
            clear hb2 hb12 O
            generalize hfr : frameL (seg s.data.toList (F + 4) (F + 4 + n)) = fr at *
            go_wp2_with (at_builtin; refine wpList_append_own _ rfl _ _ 27 rfl w.heap.size 9 i0 (.string ByteArray.empty) 1 16 Tryd.underlying27 hi hz0 hz1 hz2 rfl (by decide) _ _ _ rfl ((unhide O2).alloc _) ⟨w2.heap.size, 0, none⟩ 1 1 [.string (s.extract (F + 4) (F + 4 + n))] rfl rfl (news_strF _) ?c2 ?c3 ?c4 ?c5 ?_)
            case c2 => intro u hu; simp at hu; subst hu; rfl
            case c3 => unfold maxLen; omega
            case c4 => omega
            case c5 => simp; omega
            · have hq : (!fr == (s.extract A (F + 4 + n)).toList) = true := by assumption
              rw [ext_seg] at hq
              have hne := unhide hno (fun h => by rw [(unhide hsame).2 h] at hq; simp at hq)
              have f2 := hide (unhide fin hne)
              go_ret2
              exact ⟨_, by rw [← (unhide f2).2]; rfl, own_below (unhide f2).1 (unhide B02), unhide BB⟩
            · intro v' w3 hown' hgrow _
              have hq : (!fr == (s.extract A (F + 4 + n)).toList) = false := by assumption
              rw [ext_seg] at hq
              have heq := hide (unhide hyes ((unhide hsame).1 (by simpa using hq)))
              have hst := hide ((unhide HI).step (unhide heq))
              have ho1 : w3.ownsRow w.heap.size 9 1 v' (pre ++ [(seg s.data.toList (F + 4) (F + 4 + n), F + 4 + n)]).length (strs (recs (pre ++ [(seg s.data.toList (F + 4) (F + 4 + n), F + 4 + n)]))) := by
                rw [recs_snoc, strs_append, List.length_append]
                have e : strs [seg s.data.toList (F + 4) (F + 4 + n)] = [Value.string (s.extract (F + 4) (F + 4 + n))] := by rw [unhide es]; rfl
                rw [e]; exact hown'
              have hb3 : Below w.heap.size w w3 := ((unhide BB).alloc hs2 _).grown hgrow (by simp; omega) (fun j hj => ((unhide O2).lt j hj).1)
              have hs3 : w.heap.size ≤ w3.heap.size := hb3.size
              have O3 := hide ho1
              have B3 := hide hb3
              clear hown' hgrow ho1 hb3 hq
              go_wp2
              go_roundw
              case rel => exact ⟨F + 4 + n, _, by go_num, hl, unhide hst, unhide O3, hs3, unhide B3⟩
              case measure => simp [intOf]; omega
          · have hn' : n < 1 ∨ 9000 < n := by omega
            have qf := hide (fun W => spec_Frame_no (s.extract (F + 4) (F + 4 + n)) W (by omega) (by omega))
            have hno := hide (frL_no (l := s.data.toList) (A := A) (unhide HR) (fun x => hn ⟨x.2.1, x.2.2.1⟩))
            have f2 := hide (unhide fin (unhide hno))
            clear hinv hown hz fin hno hn
            go_wp2_with fail
            refine (unhide Q).mono ?_
            rintro e w1 ⟨rfl, hb1⟩
            have HB1 := hide hb1
            clear hb1 Q
            go_wp2_with fail
            refine (unhide qf _).mono ?_
            rintro e w2 ⟨rfl, rfl⟩
            clear qf
            go_wp2
            go_ret2
            exact ⟨_, by rw [← (unhide f2).2]; rfl, own_below (unhide f2).1 (unhide HB1), hbel.trans ((unhide HB1).mono hsz)⟩
        · have d1 : decide ((s.size : Int) - F - 4 < n) = true := by simp; omega
          have hn := hide (frL_no (l := s.data.toList) (A := A) (unhide HR) (fun h => hl (by rw [unhide HF]; exact h.1)))
          have f2 := hide (unhide fin (unhide hn))
          clear hinv hown fin hn
          go_wp2_with fail
          refine (unhide Q).mono ?_
          rintro e w1 ⟨rfl, hb1⟩
          clear Q
          go_wp2
          go_ret2
          exact ⟨_, by rw [← (unhide f2).2]; rfl, own_below (unhide f2).1 hb1, hbel.trans (hb1.mono hsz)⟩
    · have hn := hide (frL_end (l := s.data.toList) (A := A) (by rw [unhide hls']; omega))
      have f2 := hide (unhide fin (unhide hn))
      clear hinv hown fin hn
      go_wp2
      go_ret2
      exact ⟨_, by rw [← (unhide f2).2]; rfl, (unhide f2).1, hbel⟩

theorem spec_Unframe_any (s : ByteArray) (w : World) (hs : s.size ≤ 1048576) : Calls Tryd.prog 13 #[.string s] w (UnLeft s.data.toList w) := by
  by_cases h : s.size ≤ 20000
  · exact spec_Unframe_in s w h
  · exact spec_Unframe_long s w (by omega) hs
end Go.Proofs.YtnlcknklghalkaaDoor
