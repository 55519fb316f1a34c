/- The specification's Vanished. Made by gen_vanished.py. -/
import Derived.Test.YtmedhmgihfenhaaBoxOkS
import Derived.Test.YtmedhmgihfenhaaSetA
namespace Go.Proofs.Ytmedhmgihfenhaa
open Go.RowKit
open Plain
set_option linter.unusedVariables false
set_option linter.unusedSimpArgs false

namespace Plain
/-- The numbers of those that are gone since. -/
def goneStep (since : Int) (s : List Rg) (t : Tb) : List Rg := if since < t.mod then (putV s t.uid t.uid true).1 else s
def goneTo (b : Bx) (since : Int) (k : Nat) : List Rg := (b.tombs.take k).foldl (goneStep since) []
def goneL (b : Bx) (since : Int) : List Rg := b.tombs.foldl (goneStep since) []
def vanV (b : Bx) (since : Int) : List Rg × Bool := if boxOk b = true ∧ ¬ since < b.hor then (goneL b since, true) else ([], false)
theorem vanV_no1 {b : Bx} {since : Int} (h : boxOk b = false) : vanV b since = ([], false) := if_neg (fun x => by rw [h] at x; cases x.1)
theorem vanV_no2 {b : Bx} {since : Int} (h : since < b.hor) : vanV b since = ([], false) := if_neg (fun x => x.2 h)
theorem vanV_yes {b : Bx} {since : Int} (h1 : boxOk b = true) (h2 : ¬ since < b.hor) : vanV b since = (goneL b since, true) := if_pos ⟨h1, h2⟩
theorem gone_all (b : Bx) (since : Int) : goneTo b since b.tombs.length = goneL b since := by unfold goneTo goneL; rw [List.take_length]
theorem gone_next {b : Bx} {since : Int} {k : Nat} {t : Tb} (h : b.tombs[k]? = some t) : goneTo b since (k + 1) = goneStep since (goneTo b since k) t := by
  unfold goneTo
  rw [List.take_add_one, h, List.foldl_append]
  rfl
theorem put_small (s : List Rg) (lo hi : Int) (c : Bool) (h : s.length ≤ 40) : (putV s lo hi c).1.length ≤ 40 := by
  unfold putV
  split
  · split
    · assumption
    · exact h
  · exact h
theorem gone_len (b : Bx) (since : Int) : ∀ k, (goneTo b since k).length ≤ 40 := by
  intro k
  induction k with
  | zero => simp [goneTo]
  | succ k ih =>
    by_cases hk : k < b.tombs.length
    · rw [gone_next (List.getElem?_eq_getElem hk)]
      unfold goneStep
      split
      · exact put_small _ _ _ _ ih
      · exact ih
    · have : goneTo b since (k + 1) = goneTo b since k := by
        unfold goneTo
        rw [List.take_of_length_le (by omega), List.take_of_length_le (by omega)]
      rw [this]
      exact ih
end Plain
theorem below_v {w W W' : World} (h : Below w.heap.size w W) (hb : Below W.heap.size W W') : Below w.heap.size w W' := h.trans (hb.mono h.size)
set_option maxHeartbeats 16000000 in
set_option maxRecDepth 100000 in
theorem spec_Vanished_any (b : Bx) (m t : Value) (B : Nat) (since : Int) (w : World) (hf : FitBx b) (h : OwnBx B w m t b) :
    Calls Try.prog 17 #[boxV b m t, .int .i64 since] w fun e w' => ∃ v, e = .returned (.tuple #[v, .bool (vanV b since).2]) ∧ OwnR w.heap.size w' v (vanV b since).1 ∧ Below w.heap.size w w' := by
  have hl2 := hf.tombs
  obtain ⟨am, cm, rfl⟩ := g_shape h.1
  obtain ⟨at1, ct1, rfl⟩ := g_shape h.2
  obtain ⟨X, hX⟩ : ∃ X, X = (w.alloc (.cells ([.string b.name, .int .i64 b.valid, .int .i64 b.next, .int .i64 b.mod, .slice am b.mails.length cm, .slice at1 b.tombs.length ct1, .int .i64 b.hor] : List Value).toArray 27)).alloc (.cells #[] 76) := ⟨_, rfl⟩
  have x0 : HasObj X w.heap.size 27 [.string b.name, .int .i64 b.valid, .int .i64 b.next, .int .i64 b.mod, .slice am b.mails.length cm, .slice at1 b.tombs.length ct1, .int .i64 b.hor] := by rw [hX]; exact (HasObj.new _ _ _).alloc _
  have hbX : Below w.heap.size w X := by rw [hX]; exact ((Below.refl _ _).alloc (Nat.le_refl _) _).alloc (by simp) _
  have hd : X.ownsRow w.heap.size 76 2 (.slice (some ⟨w.heap.size + 1, 0, none⟩) 0 0) 0 [] := by
    have := World.ownsRow_lit (size := 2) (e := 76) (w.alloc (.cells ([.string b.name, .int .i64 b.valid, .int .i64 b.next, .int .i64 b.mod, .slice am b.mails.length cm, .slice at1 b.tombs.length ct1, .int .i64 b.hor] : List Value).toArray 27)) #[] 0 (Nat.le_refl _) (Nat.zero_le _) rfl
    rw [World.size_alloc] at this
    rw [hX]
    exact g_based this (by omega)
  have Q := spec_BoxOk_any b _ _ B X hf (h.up hbX)
  have k0 := x0.cell 0 rfl
  have k1 := x0.cell 1 rfl
  have k2 := x0.cell 2 rfl
  have k3 := x0.cell 3 rfl
  have k4 := x0.cell 4 rfl
  have k5 := x0.cell 5 rfl
  have k6 := x0.cell 6 rfl
  have BX := hide hbX
  have X0 := hide x0
  have HD := hide hd
  have HO := hide h
  have HX := hX.symm
  have V1 := hide (fun hq => vanV_no1 (b := b) (since := since) hq)
  have V2 := hide (fun hq => vanV_no2 (b := b) (since := since) hq)
  have V3 := hide (fun h1 h2 => vanV_yes (b := b) (since := since) h1 h2)
  clear hX x0 hbX h hd hf
  cases hq1 : boxOk b with
  | false =>
    rw [hq1] at Q
    have Q := hide Q
    have V := hide (unhide V1 hq1)
    clear hq1
    go_enter Try.func17, Try.ntmps17
    go_wp2_with fail
    refine (unhide Q).mono ?_
    rintro e w1 ⟨rfl, hb1⟩
    have B1 := hide (below_v (unhide BX) hb1)
    have O1 := hide (g_stays (unhide HD) hb1)
    clear hb1 HX k0 k1 k2 k3 k4 k5 k6 Q
    go_wp2
    go_ret2
    exact ⟨_, by rw [unhide V]; rfl, by rw [unhide V]; exact unhide O1, unhide B1⟩
  | true =>
    rw [hq1] at Q
    have Q := hide Q
    by_cases hh : since < b.hor
    · have V := hide (unhide V2 hh)
      have dh : decide (since < b.hor) = true := decide_eq_true hh
      clear hq1 hh
      go_enter Try.func17, Try.ntmps17
      go_wp2_with fail
      refine (unhide Q).mono ?_
      rintro e w1 ⟨rfl, hb1⟩
      have p6 := ((unhide X0).ups hb1).cell 6 rfl
      have B1 := hide (below_v (unhide BX) hb1)
      have O1 := hide (g_stays (unhide HD) hb1)
      clear hb1 HX k0 k1 k2 k3 k4 k5 k6 Q
      go_wp2
      go_ret2
      exact ⟨_, by rw [unhide V]; rfl, by rw [unhide V]; exact unhide O1, unhide B1⟩
    · have V := hide (unhide V3 hq1 hh)
      have dh : decide (since < b.hor) = false := decide_eq_false hh
      clear hq1 hh
      go_enter Try.func17, Try.ntmps17
      go_wp2_with fail
      refine (unhide Q).mono ?_
      rintro e w1 ⟨rfl, hb1⟩
      have y0 := (unhide X0).ups hb1
      have p6 := y0.cell 6 rfl
      have Y0 := hide y0
      have B1 := hide (below_v (unhide BX) hb1)
      have O1 := hide (g_stays (unhide HD) hb1)
      clear hb1 HX y0 k0 k1 k2 k3 k4 k5 k6 Q
      go_wp2
      clear p6
      go_loopw [6, 7] (fun v i wr => ∃ k : Nat, k ≤ b.tombs.length ∧ i = .int .i64 k ∧ OwnR w.heap.size wr v (goneTo b since k) ∧ HasObj wr w.heap.size 27 [.string b.name, .int .i64 b.valid, .int .i64 b.next, .int .i64 b.mod, .slice am b.mails.length cm, .slice at1 b.tombs.length ct1, .int .i64 b.hor] ∧ Below w.heap.size w wr) (fun _ i _ => b.tombs.length - (intOf i).toNat)
      case atStart => exact ⟨0, Nat.zero_le _, rfl, unhide O1, unhide Y0, unhide B1⟩
      case round =>
        obtain ⟨k, hk, rfl, hown, hob, hbel⟩ := hrel
        have p5 := hob.cell 5 rfl
        by_cases hlt : k < b.tombs.length
        · have hgk : b.tombs[k]? = some b.tombs[k] := List.getElem?_eq_getElem hlt
          obtain ⟨g, c, e, hg, c0, c1⟩ := tb_read (unhide HO).2 hbel hgk
          cases e
          have NX := hide (gone_next (since := since) hgk)
          have i1 : (0 : Int) ≤ (k : Int) := by omega
          have i2 : (k : Int) < (b.tombs.length : Int) := by omega
          have gl := gone_len b since k
          clear hgk
          generalize b.tombs[k] = f at *
          generalize goneTo b since k = G at *
          unfold goneStep at NX
          have OB := hide hob
          have BR := hide hbel
          by_cases hm : since < f.mod
          · have dd : decide (since < f.mod) = true := decide_eq_true hm
            rw [if_pos hm] at NX
            have SA := hide (fun (W : World) => spec_SetAdd_any G f.uid f.uid u6 w.heap.size wr.drew (by omega) hown)
            clear hm hown hob hbel
            go_wp2
            refine wp_region_held_drew (S := fun w' => w'.cell? ⟨w.heap.size, 5, none⟩ = some (.slice (some ⟨g, 0, none⟩) b.tombs.length ct1) ∧ w'.cell? ⟨g, k * 2, none⟩ = some (.int .i64 f.uid)) (by kernel_rfl) (⟨p5, c0⟩) (fun hHeld => ?_)
            refine takeVal 0 (some 35) ?_ rfl (by kernel_rfl) (by kernel_rfl) (by kernel_rfl) rfl (fun _ _ _ h => h) (by rfl) (by assumption) ?_ ?_
            rotate_left
            · (intro w hSw; (try dsimp only at hSw); go_simp <;> with_reducible rfl)
            simp only [Act.put, List.setIfInBounds_toArray, List.set_cons_zero, List.set_cons_succ]
            refine takeVal 1 (some 36) ?_ rfl (by kernel_rfl) (by kernel_rfl) (by kernel_rfl) rfl (fun _ _ _ h => h) (by rfl) (by assumption) ?_ ?_
            rotate_left
            · (intro w hSw; (try dsimp only at hSw); go_simp <;> with_reducible rfl)
            simp only [Act.put, List.setIfInBounds_toArray, List.set_cons_zero, List.set_cons_succ]
            refine takeVal 2 (some 37) ?_ rfl (by kernel_rfl) (by kernel_rfl) (by kernel_rfl) rfl (fun _ _ _ h => h) (by rfl) (by assumption) ?_ ?_
            rotate_left
            · (intro w hSw; (try dsimp only at hSw); go_simp <;> with_reducible rfl)
            simp only [Act.put, List.setIfInBounds_toArray, List.set_cons_zero, List.set_cons_succ]
            refine takeVal 3 (some 38) ?_ rfl (by kernel_rfl) (by kernel_rfl) (by kernel_rfl) rfl (fun _ _ _ h => h) (by rfl) (by assumption) ?_ ?_
            rotate_left
            · (intro w hSw; (try dsimp only at hSw); go_simp <;> with_reducible rfl)
            simp only [Act.put, List.setIfInBounds_toArray, List.set_cons_zero, List.set_cons_succ]
            refine takeVal 4 (some 39) ?_ rfl (by kernel_rfl) (by kernel_rfl) (by kernel_rfl) rfl (fun _ _ _ h => h) (by rfl) (by assumption) ?_ ?_
            rotate_left
            · (intro w hSw; (try dsimp only at hSw); go_simp <;> with_reducible rfl)
            simp only [Act.put, List.setIfInBounds_toArray, List.set_cons_zero, List.set_cons_succ]
            refine takeVal 5 (some 40) ?_ rfl (by kernel_rfl) (by kernel_rfl) (by kernel_rfl) rfl (fun _ _ _ h => h) (by rfl) (by assumption) ?_ ?_
            rotate_left
            · (intro w hSw; (try dsimp only at hSw); go_simp <;> with_reducible rfl)
            simp only [Act.put, List.setIfInBounds_toArray, List.set_cons_zero, List.set_cons_succ]
            refine takeVal 6 (some 41) ?_ rfl (by kernel_rfl) (by kernel_rfl) (by kernel_rfl) rfl (fun _ _ _ h => h) (by rfl) (by assumption) ?_ ?_
            rotate_left
            · (intro w hSw; (try dsimp only at hSw); go_simp <;> with_reducible rfl)
            simp only [Act.put, List.setIfInBounds_toArray, List.set_cons_zero, List.set_cons_succ]
            refine takeVal 7 (some 42) ?_ rfl (by kernel_rfl) (by kernel_rfl) (by kernel_rfl) rfl (fun _ _ _ h => h) (by rfl) (by assumption) ?_ ?_
            rotate_left
            · (intro w hSw; (try dsimp only at hSw); go_simp <;> with_reducible rfl)
            simp only [Act.put, List.setIfInBounds_toArray, List.set_cons_zero, List.set_cons_succ]
            refine takeVal 8 (some 43) ?_ rfl (by kernel_rfl) (by kernel_rfl) (by kernel_rfl) rfl (fun _ _ _ h => h) (by rfl) (by assumption) ?_ ?_
            rotate_left
            · (intro w hSw; (try dsimp only at hSw); go_simp <;> with_reducible rfl)
            simp only [Act.put, List.setIfInBounds_toArray, List.set_cons_zero, List.set_cons_succ]
            refine takeVal 9 (some 44) ?_ rfl (by kernel_rfl) (by kernel_rfl) (by kernel_rfl) rfl (fun _ _ _ h => h) (by rfl) (by assumption) ?_ ?_
            rotate_left
            · (intro w hSw; (try dsimp only at hSw); go_simp <;> with_reducible rfl)
            simp only [Act.put, List.setIfInBounds_toArray, List.set_cons_zero, List.set_cons_succ]
            refine takeVal 10 (some 45) ?_ rfl (by kernel_rfl) (by kernel_rfl) (by kernel_rfl) rfl (fun _ _ _ h => h) (by rfl) (by assumption) ?_ ?_
            rotate_left
            · (intro w hSw; (try dsimp only at hSw); go_simp <;> with_reducible rfl)
            simp only [Act.put, List.setIfInBounds_toArray, List.set_cons_zero, List.set_cons_succ]
            refine takeVal 11 (some 46) ?_ rfl (by kernel_rfl) (by kernel_rfl) (by kernel_rfl) rfl (fun _ _ _ h => h) (by rfl) (by assumption) ?_ ?_
            rotate_left
            · (intro w hSw; (try dsimp only at hSw); go_simp <;> with_reducible rfl)
            simp only [Act.put, List.setIfInBounds_toArray, List.set_cons_zero, List.set_cons_succ]
            refine takeVal 12 (some 47) ?_ rfl (by kernel_rfl) (by kernel_rfl) (by kernel_rfl) rfl (fun _ _ _ h => h) (by rfl) (by assumption) ?_ ?_
            rotate_left
            · (intro w hSw; (try dsimp only at hSw); go_simp <;> with_reducible rfl)
            simp only [Act.put, List.setIfInBounds_toArray, List.set_cons_zero, List.set_cons_succ]
            refine wpAnyH_ready (rs := [13]) (by kernel_rfl) (by simp) ?_
            refine AllReadyH.cons rfl (fun K hK => ?_) AllReadyH.nil
            go_simp
            refine (unhide SA wr.drew).mono ?_
            rintro e w5 ⟨v5, rfl, o5, hb5⟩
            go_wp2_with fail
            refine hK.out _ _ (⟨g_cell (w := wr.drew) hb5 hHeld.1, g_cell (w := wr.drew) hb5 hHeld.2⟩) (fun hHeld2 => ?_)
            clear hK K hHeld
            have hHeld := hHeld2; clear hHeld2
            try simp only [Act.put, List.setIfInBounds_toArray, List.set_cons_zero, List.set_cons_succ]
            refine takeVal 14 (some 34) ?_ rfl (by kernel_rfl) (by kernel_rfl) (by kernel_rfl) rfl (fun _ _ _ h => h) (by rfl) (by assumption) ?_ ?_
            rotate_left
            · (intro w hSw; (try dsimp only at hSw); go_simp <;> with_reducible rfl)
            simp only [Act.put, List.setIfInBounds_toArray, List.set_cons_zero, List.set_cons_succ]
            refine takeVal 15 (some 49) ?_ rfl (by kernel_rfl) (by kernel_rfl) (by kernel_rfl) rfl (fun _ _ _ h => h) (by rfl) (by assumption) ?_ ?_
            rotate_left
            · (intro w hSw; (try dsimp only at hSw); go_simp <;> with_reducible rfl)
            simp only [Act.put, List.setIfInBounds_toArray, List.set_cons_zero, List.set_cons_succ]
            refine takeVal 16 (some 50) ?_ rfl (by kernel_rfl) (by kernel_rfl) (by kernel_rfl) rfl (fun _ _ _ h => h) (by rfl) (by assumption) ?_ ?_
            rotate_left
            · (intro w hSw; (try dsimp only at hSw); go_simp <;> with_reducible rfl)
            simp only [Act.put, List.setIfInBounds_toArray, List.set_cons_zero, List.set_cons_succ]
            refine takeVal 17 (some 6) ?_ rfl (by kernel_rfl) (by kernel_rfl) (by kernel_rfl) rfl (fun _ _ _ h => h) (by rfl) (by assumption) ?_ ?_
            rotate_left
            · (intro w hSw; (try dsimp only at hSw); go_simp <;> with_reducible rfl)
            simp only [Act.put, List.setIfInBounds_toArray, List.set_cons_zero, List.set_cons_succ]
            refine wpAnyH_done (by kernel_rfl) ?_ _
            have on : OwnR w.heap.size w5 v5 (goneTo b since (k + 1)) := by rw [unhide NX]; exact g_based o5 (unhide BR).size
            have ON := hide on
            have OB5 := hide ((unhide OB).drewn.ups hb5)
            have BR5 := hide (below_v (unhide BR).drew hb5)
            clear on o5 hb5 c0 c1 p5
            go_wp2
            go_roundw
            case rel => exact ⟨k + 1, by omega, by go_num, unhide ON, unhide OB5, unhide BR5⟩
            case measure => simp [intOf]; omega
          · have dd : decide (since < f.mod) = false := decide_eq_false hm
            rw [if_neg hm] at NX
            have ON : Hid (OwnR w.heap.size wr u6 (goneTo b since (k + 1))) := by show OwnR w.heap.size wr u6 _; rw [unhide NX]; exact hown
            clear hm hown hob hbel
            go_wp2
            go_roundw
            case rel => exact ⟨k + 1, by omega, by go_num, unhide ON, unhide OB, unhide BR⟩
            case measure => simp [intOf]; omega
        · have e : k = b.tombs.length := by omega
          subst e
          rw [gone_all] at hown
          have ON := hide hown
          have BR := hide hbel
          clear hown hob hbel
          go_wp2
          go_ret2
          exact ⟨_, by rw [unhide V]; rfl, by rw [unhide V]; exact unhide ON, unhide BR⟩
end Go.Proofs.Ytmedhmgihfenhaa
