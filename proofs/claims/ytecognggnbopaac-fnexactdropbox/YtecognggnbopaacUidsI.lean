/- Boxes: the program's uidsApart and BoxOk. Made by gen_uidsi.py. -/
import Derived.Test.YtecognggnbopaacUidsPlain
import Derived.Test.YtecognggnbopaacSortI
namespace Go.Proofs.Ytecognggnbopaac
open Go.RowKit
open Plain
set_option linter.unusedVariables false
set_option linter.unusedSimpArgs false

namespace Plain
def muids (b : Bx) (k : Nat) : List Int := (b.mails.take k).map (·.uid)
def tuids (b : Bx) (k : Nat) : List Int := b.mails.map (·.uid) ++ (b.tombs.take k).map (·.uid)
theorem muids_next {b : Bx} {k : Nat} {f : Ml} (h : b.mails[k]? = some f) : muids b (k + 1) = muids b k ++ [f.uid] := by unfold muids; rw [List.take_add_one, h, List.map_append]; rfl
theorem tuids_next {b : Bx} {k : Nat} {f : Tb} (h : b.tombs[k]? = some f) : tuids b (k + 1) = tuids b k ++ [f.uid] := by unfold tuids; rw [List.take_add_one, h, List.map_append, List.append_assoc]; rfl
theorem muids_all (b : Bx) : muids b b.mails.length = tuids b 0 := by simp [muids, tuids]
theorem tuids_all (b : Bx) : tuids b b.tombs.length = uidsL b := by simp [tuids, uidsL]
theorem muids_len (b : Bx) (k : Nat) : (muids b k).length ≤ b.mails.length := by simp [muids]; omega
theorem tuids_len (b : Bx) (k : Nat) : (tuids b k).length ≤ b.mails.length + b.tombs.length := by simp [tuids]; omega
theorem uidsL_len (b : Bx) : (uidsL b).length = b.mails.length + b.tombs.length := by simp [uidsL]
end Plain

set_option maxHeartbeats 8000000 in
set_option maxRecDepth 100000 in
theorem impl_uidsApart_any (b : Bx) (m t : Value) (B : Nat) (w : World) (hl1 : b.mails.length ≤ 4000) (hl2 : b.tombs.length ≤ 4000) (h : OwnBx B w m t b) :
    Calls Try.prog 78 #[boxV b m t] w fun e w' => e = .returned (.bool (apartB b)) ∧ Below w.heap.size w w' := by
  obtain ⟨i0, hi, hz0, hz1, hz2⟩ := info_parts Try.infoIntR
  obtain ⟨am, cm, rfl⟩ := g_shape h.1
  obtain ⟨at1, ct1, rfl⟩ := g_shape h.2
  obtain ⟨X, hX⟩ : ∃ X, X = w.alloc (.cells (boxL b (.slice am b.mails.length cm) (.slice at1 b.tombs.length ct1)).toArray 53) := ⟨_, rfl⟩
  have x0 : HasObj X w.heap.size 53 (boxL b (.slice am b.mails.length cm) (.slice at1 b.tombs.length ct1)) := by rw [hX]; exact HasObj.new _ _ _
  have hbX : Below w.heap.size w X := by rw [hX]; exact (Below.refl _ _).alloc (Nat.le_refl _) _
  have k4 := x0.cell 4 rfl
  have X0 := hide x0
  have BX := hide hbX
  have HX := hX.symm
  have HM := hide (fun (W : World) hb k f hx => ml_read (W := W) h.1 hb (k := k) (f := f) hx)
  have HT := hide (fun (W : World) hb k f hx => tb_read (W := W) h.2 hb (k := k) (f := f) hx)
  clear hX x0 hbX h
  go_enter Try.func78, Try.ntmps78
  go_wp2
  clear HX k4
  go_loopw [3, 11] (fun v i wr => ∃ k : Nat, k ≤ b.mails.length ∧ i = .int .i64 k ∧ HasObj wr w.heap.size 53 (boxL b (.slice am b.mails.length cm) (.slice at1 b.tombs.length ct1)) ∧ OwnI (w.heap.size + 1) wr v (muids b k) ∧ Below w.heap.size w wr) (fun _ i _ => b.mails.length - (intOf i).toNat)
  case atStart => exact ⟨0, Nat.zero_le _, rfl, unhide X0, OwnI.nil _ _, unhide BX⟩
  clear X0 BX
  case round =>
    obtain ⟨k, hk, rfl, hp, how, hbel⟩ := hrel
    by_cases hlt : k < b.mails.length
    · have hgk : b.mails[k]? = some b.mails[k] := List.getElem?_eq_getElem hlt
      obtain ⟨g, c, e, hg, c0, c1, c2, c3⟩ := unhide HM wr hbel k _ hgk
      cases e
      have NX := hide (muids_next hgk)
      have LN := muids_len b k
      generalize b.mails[k] = f at *
      obtain ⟨va, vc, rfl⟩ := g_shape how
      obtain ⟨Y, hY⟩ : ∃ Y, Y = wr.alloc (.cells ([.int .i64 f.uid, .int .i64 f.flags, .int .i64 f.mod, .string f.text] : List Value).toArray 120) := ⟨_, rfl⟩
      have y0 : HasObj Y wr.heap.size 120 [.int .i64 f.uid, .int .i64 f.flags, .int .i64 f.mod, .string f.text] := by rw [hY]; exact HasObj.new _ _ _
      have hbY : Below wr.heap.size wr Y := by rw [hY]; exact (Below.refl _ _).alloc (Nat.le_refl _) _
      have HY := hY.symm
      have i1 : (0 : Int) ≤ (k : Int) := by omega
      have hw1 := hp.lt
      have q0 := hp.ups hbY
      have z0 := y0.cell 0 rfl
      have OY := hide (OwnI.up how hbY)
      have P0 := hide q0
      have BY := hide (below_y hbel hbY)
      clear hgk hp how hbel hY y0 q0
      go_wp2_with (at_builtin; refine wpList_append_own _ rfl _ _ 143 rfl (w.heap.size + 1) 3 i0 _ 1 8 Try.underlying143 hi hz0 hz1 hz2 rfl (by decide) _ _ _ rfl (World.ownsRow.alloc (unhide OY) _) ⟨Y.heap.size, 0, none⟩ 1 1 [.int .i64 f.uid] rfl rfl (newsC _ _) ?c2 ?c3 ?c4 ?c5 ?_)
      case c2 => intro u hu; simp at hu; rcases hu with rfl; rfl
      case c3 => unfold maxLen; omega
      case c4 => omega
      case c5 => have := hbY.size; simp; omega
      intro v' w3 hown3 hg3 _
      have oa := World.ownsRow.alloc (unhide OY) (.cells #[.int .i64 f.uid] 3)
      have pa := (unhide P0).alloc (.cells #[.int .i64 f.uid] 3)
      have q3 := hide (pa.kept hg3 (fun e => pa.not_row (by decide) oa e.symm))
      have O3 : Hid (OwnI (w.heap.size + 1) w3 v' (muids b (k + 1))) := by rw [unhide NX]; exact OwnI.snoc hown3
      have B3 : Hid (Below w.heap.size w w3) := ((unhide BY).alloc (unhide BY).size _).grown hg3 (by have := (unhide BY).size; simp; omega) (fun b hb => by have := (World.ownsRow.lt (unhide OY) b hb).1; omega)
      clear hown3 hg3 oa pa HY c0 c1 z0
      go_wp2
      go_roundw
      case rel => exact ⟨k + 1, by omega, by go_num, unhide q3, unhide O3, unhide B3⟩
      case measure => simp [intOf]; omega
    · obtain rfl : k = b.mails.length := by omega
      rw [muids_all] at how
      have k5 := hp.cell 5 rfl
      have P0 := hide hp
      have OO := hide how
      have BR := hide hbel
      clear hp how hbel HM
      go_wp2
      clear k5
      go_loopw [3, 24] (fun v i wr => ∃ k : Nat, k ≤ b.tombs.length ∧ i = .int .i64 k ∧ HasObj wr w.heap.size 53 (boxL b (.slice am b.mails.length cm) (.slice at1 b.tombs.length ct1)) ∧ OwnI (w.heap.size + 1) wr v (tuids b k) ∧ Below w.heap.size w wr) (fun _ i _ => b.tombs.length - (intOf i).toNat)
      case atStart => exact ⟨0, Nat.zero_le _, rfl, unhide P0, unhide OO, unhide BR⟩
      clear P0 OO BR
      case round =>
        obtain ⟨k, hk, rfl, hp, how, hbel⟩ := hrel
        by_cases hlt : k < b.tombs.length
        · have hgk : b.tombs[k]? = some b.tombs[k] := List.getElem?_eq_getElem hlt
          obtain ⟨g, c, e, hg, c0, c1⟩ := unhide HT wr hbel k _ hgk
          cases e
          have NX := hide (tuids_next hgk)
          have LN := tuids_len b k
          generalize b.tombs[k] = f at *
          obtain ⟨va, vc, rfl⟩ := g_shape how
          obtain ⟨Y, hY⟩ : ∃ Y, Y = wr.alloc (.cells ([.int .i64 f.uid, .int .i64 f.mod] : List Value).toArray 122) := ⟨_, rfl⟩
          have y0 : HasObj Y wr.heap.size 122 [.int .i64 f.uid, .int .i64 f.mod] := by rw [hY]; exact HasObj.new _ _ _
          have hbY : Below wr.heap.size wr Y := by rw [hY]; exact (Below.refl _ _).alloc (Nat.le_refl _) _
          have HY := hY.symm
          have i1 : (0 : Int) ≤ (k : Int) := by omega
          have hw1 := hp.lt
          have q0 := hp.ups hbY
          have z0 := y0.cell 0 rfl
          have OY := hide (OwnI.up how hbY)
          have P0 := hide q0
          have BY := hide (below_y hbel hbY)
          clear hgk hp how hbel hY y0 q0
          go_wp2_with (at_builtin; refine wpList_append_own _ rfl _ _ 143 rfl (w.heap.size + 1) 3 i0 _ 1 8 Try.underlying143 hi hz0 hz1 hz2 rfl (by decide) _ _ _ rfl (World.ownsRow.alloc (unhide OY) _) ⟨Y.heap.size, 0, none⟩ 1 1 [.int .i64 f.uid] rfl rfl (newsC _ _) ?c2 ?c3 ?c4 ?c5 ?_)
          case c2 => intro u hu; simp at hu; rcases hu with rfl; rfl
          case c3 => unfold maxLen; omega
          case c4 => omega
          case c5 => have := hbY.size; simp; omega
          intro v' w3 hown3 hg3 _
          have oa := World.ownsRow.alloc (unhide OY) (.cells #[.int .i64 f.uid] 3)
          have pa := (unhide P0).alloc (.cells #[.int .i64 f.uid] 3)
          have q3 := hide (pa.kept hg3 (fun e => pa.not_row (by decide) oa e.symm))
          have O3 : Hid (OwnI (w.heap.size + 1) w3 v' (tuids b (k + 1))) := by rw [unhide NX]; exact OwnI.snoc hown3
          have B3 : Hid (Below w.heap.size w w3) := ((unhide BY).alloc (unhide BY).size _).grown hg3 (by have := (unhide BY).size; simp; omega) (fun b hb => by have := (World.ownsRow.lt (unhide OY) b hb).1; omega)
          clear hown3 hg3 oa pa HY c0 c1 z0
          go_wp2
          go_roundw
          case rel => exact ⟨k + 1, by omega, by go_num, unhide q3, unhide O3, unhide B3⟩
          case measure => simp [intOf]; omega
        · obtain rfl : k = b.tombs.length := by omega
          rw [tuids_all] at how
          obtain ⟨va, vc, rfl⟩ := g_shape how
          have SO := hide (sortInts_any (uidsL b) _ (w.heap.size + 1) wr (by rw [uidsL_len]; omega) hp.lt how)
          have LL := hide (uidsL_len b)
          have P0 := hide hp
          have BR := hide hbel
          clear hp how hbel HT
          go_wp2_with fail
          refine (unhide SO).mono ?_
          rintro e w1 ⟨rfl, ⟨s, hs1, hs2, hs3⟩, hb1⟩
          have EQ : (((Lib.compact s).length : Int) == ((b.mails.length : Int) + (b.tombs.length : Int))) = apartB b := by
            unfold apartB
            rw [← compact_apart hs1 hs2, unhide LL, Bool.eq_iff_iff, beq_iff_eq, decide_eq_true_eq]
            omega
          have LS : Hid (s.length ≤ 4000000) := by show s.length ≤ _; rw [hs1.length_eq, unhide LL]; omega
          have RI := hide hs3
          have B1 := hide ((unhide BR).trans (hb1.mono (Nat.le_succ _)))
          have hbx : HasObj w1 w.heap.size 53 (boxL b (.slice am b.mails.length cm) (.slice at1 b.tombs.length ct1)) := (unhide P0).up hb1 (Nat.lt_succ_self _)
          have CO := hide (fun (W : World) (hb : ReadI (w.heap.size + 1) W (.slice va (uidsL b).length vc) s) => compactInts_any s _ (w.heap.size + 1) W (unhide LS) hb)
          have p4 := hbx.cell 4 rfl
          have p5 := hbx.cell 5 rfl
          have n1 : IntKind.i64.wrap ((b.mails.length : Int) + (b.tombs.length : Int)) = (b.mails.length : Int) + (b.tombs.length : Int) := by rw [IntKind.wrap_i64]; omega
          clear hs1 hs2 hs3 hb1 SO LL hbx
          go_wp2
          refine wp_region_held_drew (S := fun w' => w'.cell? ⟨w.heap.size, 4, none⟩ = some (.slice am b.mails.length cm) ∧ w'.cell? ⟨w.heap.size, 5, none⟩ = some (.slice at1 b.tombs.length ct1)) (by kernel_rfl) (⟨p4, p5⟩) (fun hHeld => ?_)
          refine takeVal 0 (some 36) ?_ rfl (by kernel_rfl) (by kernel_rfl) (by kernel_rfl) rfl (fun _ _ _ h => h) (by rfl) (by assumption) ?_ ?_
          rotate_left
          · (intro w hSw; (try dsimp only at hSw); go_simp <;> with_reducible rfl)
          simp only [Act.put, List.setIfInBounds_toArray, List.set_cons_zero, List.set_cons_succ]
          refine takeVal 3 (some 39) ?_ rfl (by kernel_rfl) (by kernel_rfl) (by kernel_rfl) rfl (fun _ _ _ h => h) (by rfl) (by assumption) ?_ ?_
          rotate_left
          · (intro w hSw; (try dsimp only at hSw); go_simp <;> with_reducible rfl)
          simp only [Act.put, List.setIfInBounds_toArray, List.set_cons_zero, List.set_cons_succ]
          refine takeVal 4 (some 40) ?_ rfl (by kernel_rfl) (by kernel_rfl) (by kernel_rfl) rfl (fun _ _ _ h => h) (by rfl) (by assumption) ?_ ?_
          rotate_left
          · (intro w hSw; (try dsimp only at hSw); go_simp <;> with_reducible rfl)
          simp only [Act.put, List.setIfInBounds_toArray, List.set_cons_zero, List.set_cons_succ]
          refine takeVal 5 (some 41) ?_ rfl (by kernel_rfl) (by kernel_rfl) (by kernel_rfl) rfl (fun _ _ _ h => h) (by rfl) (by assumption) ?_ ?_
          rotate_left
          · (intro w hSw; (try dsimp only at hSw); go_simp <;> with_reducible rfl)
          simp only [Act.put, List.setIfInBounds_toArray, List.set_cons_zero, List.set_cons_succ]
          refine takeVal 6 (some 42) ?_ rfl (by kernel_rfl) (by kernel_rfl) (by kernel_rfl) rfl (fun _ _ _ h => h) (by rfl) (by assumption) ?_ ?_
          rotate_left
          · (intro w hSw; (try dsimp only at hSw); go_simp <;> with_reducible rfl)
          simp only [Act.put, List.setIfInBounds_toArray, List.set_cons_zero, List.set_cons_succ]
          refine takeVal 7 (some 43) ?_ rfl (by kernel_rfl) (by kernel_rfl) (by kernel_rfl) rfl (fun _ _ _ h => h) (by rfl) (by assumption) ?_ ?_
          rotate_left
          · (intro w hSw; (try dsimp only at hSw); go_simp <;> with_reducible rfl)
          simp only [Act.put, List.setIfInBounds_toArray, List.set_cons_zero, List.set_cons_succ]
          refine takeVal 8 (some 44) ?_ rfl (by kernel_rfl) (by kernel_rfl) (by kernel_rfl) rfl (fun _ _ _ h => h) (by rfl) (by assumption) ?_ ?_
          rotate_left
          · (intro w hSw; (try dsimp only at hSw); go_simp <;> with_reducible rfl)
          simp only [Act.put, List.setIfInBounds_toArray, List.set_cons_zero, List.set_cons_succ]
          refine takeVal 9 (some 45) ?_ rfl (by kernel_rfl) (by kernel_rfl) (by kernel_rfl) rfl (fun _ _ _ h => h) (by rfl) (by assumption) ?_ ?_
          rotate_left
          · (intro w hSw; (try dsimp only at hSw); go_simp <;> with_reducible rfl)
          simp only [Act.put, List.setIfInBounds_toArray, List.set_cons_zero, List.set_cons_succ]
          refine wpAnyH_ready (rs := [1]) (by kernel_rfl) (by simp) ?_
          refine AllReadyH.cons rfl (fun K hK => ?_) AllReadyH.nil
          go_simp
          refine (unhide CO _ (show ReadI _ w1.drew _ _ from unhide RI)).mono ?_
          rintro e w5 ⟨a5, c5, rfl, hb5⟩
          go_wp2_with fail
          refine hK.out _ _ (⟨(hb5.cell (p := ⟨w.heap.size, 4, none⟩) (Nat.lt_succ_self _)).trans hHeld.1, (hb5.cell (p := ⟨w.heap.size, 5, none⟩) (Nat.lt_succ_self _)).trans hHeld.2⟩) (fun hHeld2 => ?_)
          clear hK K hHeld
          have hHeld := hHeld2; clear hHeld2
          try simp only [Act.put, List.setIfInBounds_toArray, List.set_cons_zero, List.set_cons_succ]
          refine takeVal 2 (some 38) ?_ rfl (by kernel_rfl) (by kernel_rfl) (by kernel_rfl) rfl (fun _ _ _ h => h) (by rfl) (by assumption) ?_ ?_
          rotate_left
          · (intro w hSw; (try dsimp only at hSw); go_simp <;> with_reducible rfl)
          simp only [Act.put, List.setIfInBounds_toArray, List.set_cons_zero, List.set_cons_succ]
          refine takeVal 10 (some 46) ?_ rfl (by kernel_rfl) (by kernel_rfl) (by kernel_rfl) rfl (fun _ _ _ h => h) (by rfl) (by assumption) ?_ ?_
          rotate_left
          · (intro w hSw; (try dsimp only at hSw); go_simp <;> with_reducible rfl)
          simp only [Act.put, List.setIfInBounds_toArray, List.set_cons_zero, List.set_cons_succ]
          refine takeVal 11 (some 2) ?_ rfl (by kernel_rfl) (by kernel_rfl) (by kernel_rfl) rfl (fun _ _ _ h => h) (by rfl) (by assumption) ?_ ?_
          rotate_left
          · (intro w hSw; (try dsimp only at hSw); go_simp <;> with_reducible rfl)
          simp only [Act.put, List.setIfInBounds_toArray, List.set_cons_zero, List.set_cons_succ]
          refine wpAnyH_done (by kernel_rfl) ?_ _
          go_wp2
          go_ret
          exact ⟨rfl, (unhide B1).drew.trans (hb5.mono (Nat.le_succ _))⟩
end Go.Proofs.Ytecognggnbopaac
