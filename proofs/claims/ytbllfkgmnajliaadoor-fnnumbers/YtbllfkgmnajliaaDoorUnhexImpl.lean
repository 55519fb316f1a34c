/- Figures read back: what the program's Unhex answers. -/
import Derived.Test.YtbllfkgmnajliaaDoorUnhex
import Derived.WalkMore
namespace Go.Proofs.YtbllfkgmnajliaaDoor
open Go.RowKit
open Plain
set_option linter.unusedVariables false

set_option maxHeartbeats 1000000 in
set_option maxRecDepth 100000 in
theorem impl_Unhex_in (s : ByteArray) (w : World) (hs : s.size ≤ 40000) (hev : s.size % 2 = 0) :
    Calls Tryd.prog 14 #[.string s] w fun e w' => e = .returned (unV s.data.toList) ∧ Below w.heap.size w w' := by
  obtain ⟨i0, hi, hz0, hz1, hz2⟩ := info_parts Tryd.infoU8
  have hd : decide ((40000 : Int) < s.size) = false := by simp; omega
  have hd2 : ((s.size : Int) % 2 != 0) = false := by simp; omega
  have hll' := hide (show s.data.toList.length = s.size by simp)
  obtain ⟨n, hn⟩ : ∃ n, 2 * n = s.size := ⟨s.size / 2, by omega⟩
  have hn' := hide hn
  go_enter Tryd.func14, Tryd.ntmps14
  go_wp2
  go_step3
  go_wp2_with (at_make; refine wpList_make_full _ rfl _ _ 22 rfl w.heap.size 5 i0 (.int .u8 0) 1 Tryd.underlying22 hi hz0 hz1 _ _ _ _ n rfl rfl (by omega) (by omega) (by rw [hz2]; omega) (by unfold maxLen; omega) (Nat.le_refl _) ?_)
  intro w0 hown0 hgrow0
  rw [made_zero', ← impL_zero s.data.toList n] at hown0
  have hb0 : Below w.heap.size w w0 := (Below.refl _ _).grown hgrow0 (Nat.le_refl _) (fun j hj => by cases hj)
  clear hgrow0
  go_wp2
  go_step3
  go_wp2
  go_loopg [22] s.size (fun gk i wr => ∃ k : Nat, k + gk = s.size ∧ i = .int .i64 k ∧ Figs s.data.toList k ∧ wr.ownsRow w.heap.size 5 1 (.slice (some ⟨w.heap.size, 0, none⟩) n n) n (bv (impL s.data.toList k n)) ∧ Below w.heap.size w wr)
  case atStart => exact ⟨0, by omega, rfl, Figs.zero _, hown0, hb0⟩
  case round =>
    obtain ⟨k, hkg, rfl, hfig, hown, hbel⟩ := hrel
    cases gk with
    | zero =>
      have hkz : ¬ ((k : Int) < (s.size : Int)) := by omega
      have hy := hide (un_yes hfig (by rw [unhide hll']; omega))
      have e1 : impL s.data.toList k n = outL s.data.toList n := impL_all (by omega)
      have e : n = s.data.toList.length / 2 := by rw [unhide hll']; omega
      rw [e1] at hown
      have hcv := own_str (by rw [outL_length]) hown
      have E := hide e
      clear hown e1 hfig e
      go_wp2
      go_ret2
      exact ⟨by rw [unhide hy, ← unhide E]; rfl, hbel⟩
    | succ g =>
      have hkz : (k : Int) < (s.size : Int) := by omega
      have hlt : k < s.size := by omega
      have a1 := hide (ab_at hlt)
      have x1 : s[k].toNat < 256 := s[k].toNat_lt
      have hX := impX_lt hfig
      have hcell : wr.cell? ⟨w.heap.size, k / 2, none⟩ = some (.int .u8 (impX s.data.toList k : Int)) := by
        rw [hown.cellAt (k / 2) (by omega)]
        unfold bv
        rw [List.getElem?_map, impL_get (by omega), Option.map_some, impB_at hfig]
      have hfz : wr.frozen? ⟨w.heap.size, k / 2, none⟩ = false := hown.frozenAt _
      have HC := hide hcell
      have HF := hide hfz
      clear hcell hfz
      go_wp2
      go_loopg [25] 16 (fun g2 v wy => ∃ u : Nat, u + g2 = 16 ∧ v = .int .i64 u ∧ Hid (∀ t, t < u → (fig t).toNat ≠ s[k].toNat) ∧ ∃ q, wy = wr.drewN q)
      case atStart => exact ⟨0, by omega, rfl, fun t ht => by omega, 0, rfl⟩
      case round =>
        obtain ⟨u, hug, rfl, hne, q, rfl⟩ := hrel
        cases gk with
        | zero =>
          have huz : ¬ ((u : Int) < 16) := by omega
          have hno := hide (un_no (l := s.data.toList) (k := k) (by rw [unhide hll']; exact hlt) (by
            rw [unhide a1]
            cases f : isF s[k].toNat with
            | false => rfl
            | true => exact absurd (fig_vf f) (unhide hne _ (by have := vf_lt f; omega))))
          go_wp2
          go_ret2
          exact ⟨by rw [unhide hno]; rfl, below_drewN hbel _⟩
        | succ g2 =>
          have huz : (u : Int) < 16 := by omega
          have i1 := index_figs (κ := .i64) (u : Int) (by omega) huz
          by_cases heq : (fig u).toNat = s[k].toNat
          · have hq : (figI (u : Int) == (s[k].toNat : Int)) = true := by simp [figI, heq]
            go_wp2
            go_quiet (fail)
            have hcell : ∀ z, (wr.drewN z).cell? ⟨w.heap.size, k / 2, none⟩ = some (.int .u8 (impX s.data.toList k : Int)) := fun z => unhide HC
            have hfz : ∀ z, (wr.drewN z).frozen? ⟨w.heap.size, k / 2, none⟩ = false := fun z => unhide HF
            have hvf := vf_fig (v := u) (by omega) heq
            have hF1 : isF (ab s.data.toList k) = true := by rw [unhide a1]; exact hvf.1
            have hV1 := hide (show vf (ab s.data.toList k) = u by rw [unhide a1]; exact hvf.2)
            have hfig' := hfig.succ hF1
            have hset := hide (impL_set (n := n) hfig hF1 (by omega))
            have hownz : ∀ z, (wr.drewN z).ownsRow w.heap.size 5 1 (.slice (some ⟨w.heap.size, 0, none⟩) n n) n (bv (impL s.data.toList k n)) := fun z => hown
            have hbz : ∀ z, Below w.heap.size w (wr.drewN z) := fun z => below_drewN hbel z
            have HO := hide hownz
            have HB := hide hbz
            clear hown hfig hvf hF1 hownz hbz hbel
            go_wp2
            go_roundg g
            case measure => omega
            case rel => exact ⟨k + 1, by omega, by go_num, hfig', by rw [← unhide hset, unhide hV1]; exact (unhide HO _).stored _ _ |>.1, (unhide HB _).setCell (Nat.le_refl _) _⟩
          · have hq : (figI (u : Int) == (s[k].toNat : Int)) = false := by simp [figI]; omega
            go_wp2
            go_quiet (fail)
            go_wp2
            go_roundg g2
            case measure => omega
            case rel => exact ⟨u + 1, by omega, by go_num, fun t ht => by
              by_cases e : t = u
              · rw [e]; exact heq
              · exact unhide hne t (by omega), _, rfl⟩

theorem impl_Unhex_out (s : ByteArray) (w : World) (hs : s.size ≤ 1048576) (h : 40000 < s.size ∨ s.size % 2 ≠ 0) :
    Calls Tryd.prog 14 #[.string s] w fun e w' => e = .returned (.tuple #[.string ⟨#[]⟩, .bool false]) ∧ Below w.heap.size w w' := by
  by_cases h1 : s.size % 2 = 0
  · have hd : decide ((40000 : Int) < s.size) = true := by simp; omega
    have hd2 : ((s.size : Int) % 2 != 0) = false := by simp; omega
    go_enter Tryd.func14, Tryd.ntmps14
    go_wp2
    go_step3
    go_wp2
    rw [Exit.noGoto_ret]
    go_ret2
    exact ⟨rfl, Below.refl _ _⟩
  · have hd2 : ((s.size : Int) % 2 != 0) = true := by simp; omega
    go_enter Tryd.func14, Tryd.ntmps14
    go_wp2
    go_step3
    go_wp2
    rw [Exit.noGoto_ret]
    go_ret2
    exact ⟨rfl, Below.refl _ _⟩
end Go.Proofs.YtbllfkgmnajliaaDoor
