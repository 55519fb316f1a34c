/- The parts of a line: what the specification's PartsOf answers. -/
import Derived.Test.YtnhaljmijonndakDoorMarks
import Derived.Test.YtnhaljmijonndakDoorPartsPlain
namespace Go.Proofs.YtnhaljmijonndakDoor
open Go.RowKit
open Plain
set_option linter.unusedVariables false

theorem Tryd.infoStr : (Tryd.prog.info? 9).map (fun i => (i.zero, i.size, i.bytes)) = some (some (.string ByteArray.empty), 1, 16) := by kernel_rfl

theorem news_str {w : World} (v : Value) : ∀ j u, ([v] : List Value)[j]? = some u → (w.alloc (.cells #[v] 9)).cell? ((⟨w.heap.size, 0, none⟩ : Addr).add j) = some u := by
  intro j u hj
  match j, hj with
  | 0, hj => simp at hj; subst hj; simp [Addr.add]

/-- What both readers of a line hand back. -/
def PartsLeft (l : List UInt8) (w : World) (e : Ending) (w' : World) : Prop :=
  ∃ v, e = .returned (.tuple #[v, .bool (okP l)]) ∧ w'.ownsRow w.heap.size 9 1 v (partsL l).length (strs (partsL l)) ∧ Below w.heap.size w w'

def PState (l : List UInt8) (k q : Nat) (done : List (List UInt8)) : Prop :=
  (PInv l k q done ∧ Prs l k) ∨ (k = l.length + 1 ∧ done = Lib.fields l ∧ done.length ≤ k ∧ Prs l l.length)
theorem PState.le {l : List UInt8} {k q : Nat} {done : List (List UInt8)} (h : PState l k q done) : k ≤ l.length + 1 ∧ done.length ≤ k := by
  rcases h with ⟨h, _⟩ | ⟨h1, h2, h3, _⟩
  · exact ⟨by have := h.2.1; omega, h.2.2.1⟩
  · omega
theorem PState.at {l : List UInt8} {k q : Nat} {done : List (List UInt8)} (h : PState l k q done) (hk : k ≤ l.length) : PInv l k q done ∧ Prs l k := by
  rcases h with h | ⟨h1, _⟩
  · exact h
  · omega
theorem PState.over {l : List UInt8} {k q : Nat} {done : List (List UInt8)} (h : PState l k q done) (hk : ¬ k ≤ l.length) : done = Lib.fields l ∧ Prs l l.length := by
  rcases h with ⟨h, _⟩ | ⟨h1, h2, h3, h4⟩
  · have := h.2.1; omega
  · exact ⟨h2, h4⟩

set_option maxHeartbeats 1600000 in
set_option maxRecDepth 100000 in
theorem spec_PartsOf_in (s : ByteArray) (w : World) (hs : s.size ≤ 600) :
    Calls Tryd.prog 10 #[.string s] w (PartsLeft s.data.toList w) := by
  obtain ⟨i0, hi, hz0, hz1, hz2⟩ := info_parts Tryd.infoStr
  have hl' := hide (show s.data.toList.length = s.size by simp)
  have hd0 : decide ((600 : Int) < s.size) = false := by simp; omega
  go_enter Tryd.func10, Tryd.ntmps10
  go_wp2
  go_loopw [4, 5, 6] (fun v b i wr => ∃ (k q : Nat) (done : List (List UInt8)), i = .int .i64 k ∧ b = .int .i64 q ∧ q ≤ 601 ∧ PState s.data.toList k q done ∧ wr.ownsRow w.heap.size 9 1 v done.length (strs done) ∧ w.heap.size ≤ wr.heap.size ∧ Below w.heap.size w wr)
    (fun _ _ i _ => s.size + 1 - (intOf i).toNat)
  case atStart => exact ⟨0, 0, [], rfl, rfl, by omega, .inl ⟨PInv.start _, Prs.zero _⟩, World.ownsRow_lit w #[] 0 (Nat.le_refl _) (Nat.zero_le _) rfl, by simp, (Below.refl _ _).alloc (Nat.le_refl _) _⟩
  case round =>
    obtain ⟨k, q, done, rfl, rfl, hq, hst, hown, hsz, hbel⟩ := hrel
    have hle := hst.le
    rw [unhide hl'] at hle
    by_cases hks : k ≤ s.size
    · obtain ⟨hinv, hpr⟩ := hst.at (by rw [unhide hl']; exact hks)
      have hqk : q ≤ k := hinv.1
      clear hst
      by_cases hlt : k < s.size
      · have hc := byte_at hlt
        have hx : s[k].toNat < 256 := s[k].toNat_lt
        have dlt : decide ((k : Int) < s.size) = true := by simp; omega
        cases hp : prB s[k].toNat with
        | false =>
          have hno := hide (ok_bad hc hp)
          rw [prB_not] at hp
          clear hinv hpr hown hc
          by_cases h32 : s[k].toNat < 32
          · have d1 : decide ((s[k].toNat : Int) < 32) = true := by simp; omega
            go_wp2
            go_ret2
            refine ⟨_, by rw [unhide hno]; rfl, ?_, (hbel.alloc hsz _)⟩
            rw [parts_no (unhide hno)]
            exact World.ownsRow_lit _ #[] 0 hsz (Nat.zero_le _) rfl
          · have d1 : decide ((s[k].toNat : Int) < 32) = false := by simp; omega
            have d2 : decide ((126 : Int) < s[k].toNat) = true := by simp; omega
            go_wp2
            go_ret2
            refine ⟨_, by rw [unhide hno]; rfl, ?_, (hbel.alloc hsz _)⟩
            rw [parts_no (unhide hno)]
            exact World.ownsRow_lit _ #[] 0 hsz (Nat.zero_le _) rfl
        | true =>
          have hpr' := hpr.succ hc hp
          have hp' := hp
          rw [prB_iff] at hp
          have d1 : decide ((s[k].toNat : Int) < 32) = false := by simp; omega
          have d2 : decide ((126 : Int) < s[k].toNat) = false := by simp; omega
          by_cases h32 : s[k].toNat = 32
          · have d3 : ((s[k].toNat : Int) != 32) = false := by simp; omega
            by_cases hqk2 : q < k
            · have hst' := hinv.blank hc h32 hqk2
              have he := hide (ext_eq s q k)
              have H32 := hide h32
              clear hinv hpr h32 hc hp'
              go_wp2_with (at_builtin; refine wpList_append_own _ rfl _ _ 27 rfl w.heap.size 9 i0 (.string ByteArray.empty) 1 16 Tryd.underlying27 hi hz0 hz1 hz2 rfl (by decide) _ _ _ rfl (hown.alloc _) ⟨wr.heap.size, 0, none⟩ 1 1 [.string (s.extract q k)] rfl rfl (news_str _) ?c2 ?c3 ?c4 ?c5 ?_)
              case c2 => intro u hu; simp at hu; subst hu; rfl
              case c3 => unfold maxLen; omega
              case c4 => omega
              case c5 => simp; omega
              intro v' w1 hown' hgrow _
              have ho1 : w1.ownsRow w.heap.size 9 1 v' (done ++ [seg s.data.toList q k]).length (strs (done ++ [seg s.data.toList q k])) := by
                rw [strs_append, List.length_append]
                have e : strs [seg s.data.toList q k] = [Value.string (s.extract q k)] := by rw [unhide he]; rfl
                rw [e]; exact hown'
              have hb1 : Below w.heap.size w w1 := (hbel.alloc hsz _).grown hgrow (by simp; omega) (fun j hj => (hown.lt j hj).1)
              have hs1 : w.heap.size ≤ w1.heap.size := by have := hb1.size; omega
              clear hown hown' hgrow hbel
              go_wp2
              go_roundw
              case rel => exact ⟨k + 1, k + 1, _, by go_num, by go_num, by omega, .inl ⟨hst', hpr'⟩, ho1, hs1, hb1⟩
              case measure => simp [intOf]; omega
            · have hst' := hinv.blank0 hc h32 hqk2
              have H32 := hide h32
              clear hinv hpr h32 hc hp'
              go_wp2
              go_roundw
              case rel => exact ⟨k + 1, k + 1, _, by go_num, by go_num, by omega, .inl ⟨hst', hpr'⟩, hown, hsz, hbel⟩
              case measure => simp [intOf]; omega
          · have d3 : ((s[k].toNat : Int) != 32) = true := by simp; omega
            have hst' := hinv.char hc hp' h32
            clear hinv hpr hc hp'
            go_wp2
            go_roundw
            case rel => exact ⟨k + 1, q, _, by go_num, rfl, by omega, .inl ⟨hst', hpr'⟩, hown, hsz, hbel⟩
            case measure => simp [intOf]; omega
      · have hke : k = s.data.toList.length := by rw [unhide hl']; omega
        have dlt : decide ((k : Int) < s.size) = false := by simp; omega
        have hpr' : Prs s.data.toList s.data.toList.length := by rw [← hke]; exact hpr
        by_cases hqk2 : q < k
        · have hfin := hinv.last hke hqk2
          have hdl := hinv.2.2.1
          have he := hide (ext_eq s q k)
          have HK := hide hke
          clear hinv hpr hke
          go_wp2_with (at_builtin; refine wpList_append_own _ rfl _ _ 27 rfl w.heap.size 9 i0 (.string ByteArray.empty) 1 16 Tryd.underlying27 hi hz0 hz1 hz2 rfl (by decide) _ _ _ rfl (hown.alloc _) ⟨wr.heap.size, 0, none⟩ 1 1 [.string (s.extract q k)] rfl rfl (news_str _) ?e2 ?e3 ?e4 ?e5 ?_)
          case e2 => intro u hu; simp at hu; subst hu; rfl
          case e3 => unfold maxLen; omega
          case e4 => omega
          case e5 => simp; omega
          intro v' w1 hown' hgrow _
          have ho1 : w1.ownsRow w.heap.size 9 1 v' (done ++ [seg s.data.toList q k]).length (strs (done ++ [seg s.data.toList q k])) := by
            rw [strs_append, List.length_append]
            have e : strs [seg s.data.toList q k] = [Value.string (s.extract q k)] := by rw [unhide he]; rfl
            rw [e]; exact hown'
          have hb1 : Below w.heap.size w w1 := (hbel.alloc hsz _).grown hgrow (by simp; omega) (fun j hj => (hown.lt j hj).1)
          have hs1 : w.heap.size ≤ w1.heap.size := by have := hb1.size; omega
          have HF := hide hfin
          clear hown hown' hgrow hbel hfin
          go_wp2
          go_roundw
          case rel => exact ⟨k + 1, k + 1, _, by go_num, by go_num, by omega, .inr ⟨by rw [← unhide HK], unhide HF, by simp; omega, hpr'⟩, ho1, hs1, hb1⟩
          case measure => simp [intOf]; omega
        · have hfin := hide (hinv.last0 hke hqk2)
          have hdl := hinv.2.2.1
          have HK := hide hke
          clear hinv hpr hke
          go_wp2
          go_roundw
          case rel => exact ⟨k + 1, k + 1, _, by go_num, by go_num, by omega, .inr ⟨by rw [← unhide HK], unhide hfin, by omega, hpr'⟩, hown, hsz, hbel⟩
          case measure => simp [intOf]; omega
    · obtain ⟨hfin, hpr⟩ := hst.over (by rw [unhide hl']; exact hks)
      have hok := ok_all hpr (Nat.le_refl _) (by rw [unhide hl']; exact hs)
      clear hst hpr
      have hvs : ∃ (ad : Option Addr) (cap : Nat), u4 = .slice ad done.length cap := by
        rcases hown.2 with ⟨h1, h2⟩ | ⟨g, cap, cur, h1, _⟩
        · exact ⟨none, 0, by rw [h1, h2]⟩
        · exact ⟨_, _, h1⟩
      obtain ⟨ad, cap, rfl⟩ := hvs
      have hkz : ¬ ((k : Int) ≤ s.size) := by omega
      have hdl := hle.2
      by_cases h10 : 10 < done.length
      · have d1 : decide ((10 : Int) < done.length) = true := by simp; omega
        have hno : okP s.data.toList = false := by rw [hok, ← hfin]; simp; omega
        have HN := hide hno
        clear hok hfin hno hown
        go_wp2
        go_ret2
        refine ⟨_, by rw [unhide HN]; rfl, ?_, (hbel.alloc hsz _)⟩
        rw [parts_no (unhide HN)]
        exact World.ownsRow_lit _ #[] 0 hsz (Nat.zero_le _) rfl
      · have d1 : decide ((10 : Int) < done.length) = false := by simp; omega
        have hyes : okP s.data.toList = true := by rw [hok, ← hfin]; simp; omega
        have HN := hide hyes
        have HF := hide hfin
        clear hok hfin hyes
        go_wp2
        go_ret2
        refine ⟨_, by rw [unhide HN]; rfl, ?_, hbel⟩
        rw [parts_yes (unhide HN), ← unhide HF]
        exact hown

theorem spec_PartsOf_long (s : ByteArray) (w : World) (hs : 600 < s.size) :
    Calls Tryd.prog 10 #[.string s] w (PartsLeft s.data.toList w) := by
  have hno := hide (ok_long (l := s.data.toList) (by simpa using hs))
  have hd0 : decide ((600 : Int) < s.size) = true := by simp; omega
  go_enter Tryd.func10, Tryd.ntmps10
  go_wp2
  go_ret2
  refine ⟨_, by rw [unhide hno]; rfl, ?_, ((Below.refl _ _).alloc (Nat.le_refl _) _)⟩
  rw [parts_no (unhide hno)]
  exact World.ownsRow_lit _ #[] 0 (Nat.le_refl _) (Nat.zero_le _) rfl
end Go.Proofs.YtnhaljmijonndakDoor
