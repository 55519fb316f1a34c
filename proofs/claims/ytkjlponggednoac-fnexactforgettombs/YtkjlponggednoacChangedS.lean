/- The specification's Changed. -/
import Derived.Test.YtkjlponggednoacBoxNameS
namespace Go.Proofs.Ytkjlponggednoac
open Go.RowKit
open Plain
set_option linter.unusedVariables false

namespace Plain
def changedL (b : Bx) (since : Int) : List Ml := b.mails.filter (fun m => decide (since < m.mod))
def changedTo (b : Bx) (since : Int) (k : Nat) : List Ml := (b.mails.take k).filter (fun m => decide (since < m.mod))
theorem changed_all (b : Bx) (since : Int) : changedTo b since b.mails.length = changedL b since := by unfold changedTo changedL; rw [List.take_length]
theorem changed_yes {b : Bx} {since : Int} {k : Nat} {m : Ml} (h : b.mails[k]? = some m) (hm : since < m.mod) : changedTo b since (k + 1) = changedTo b since k ++ [m] := by
  unfold changedTo
  rw [List.take_add_one, h, List.filter_append]
  simp [hm]
theorem changed_no {b : Bx} {since : Int} {k : Nat} {m : Ml} (h : b.mails[k]? = some m) (hm : ¬ since < m.mod) : changedTo b since (k + 1) = changedTo b since k := by
  unfold changedTo
  rw [List.take_add_one, h, List.filter_append]
  simp [hm]
theorem changed_len (b : Bx) (since : Int) (k : Nat) : (changedTo b since k).length ≤ b.mails.length := by
  unfold changedTo
  refine Nat.le_trans (List.length_filter_le _ _) ?_
  rw [List.length_take]
  omega
end Plain
set_option maxHeartbeats 4000000 in
set_option maxRecDepth 100000 in
theorem spec_Changed_any (b : Bx) (m t : Value) (B : Nat) (since : Int) (w : World) (hl : b.mails.length ≤ 4000000) (h : OwnBx B w m t b) :
    Calls Try.prog 7 #[boxV b m t, .int .i64 since] w fun e w' => ∃ v, e = .returned v ∧ OwnMl w.heap.size w' v (changedL b since) ∧ Below w.heap.size w w' := by
  obtain ⟨i0, hi, hz0, hz1, hz2⟩ := info_parts Try.infoMail
  obtain ⟨am, cm, rfl⟩ := g_shape h.1
  obtain ⟨at1, ct1, rfl⟩ := g_shape h.2
  obtain ⟨X, hX⟩ : ∃ X, X = (w.alloc (.cells (boxL b (.slice am b.mails.length cm) (.slice at1 b.tombs.length ct1)).toArray 31)).alloc (.cells #[] 47) := ⟨_, rfl⟩
  have x0 : HasObj X w.heap.size 31 (boxL b (.slice am b.mails.length cm) (.slice at1 b.tombs.length ct1)) := by rw [hX]; exact (HasObj.new _ _ _).alloc _
  have hbX : Below w.heap.size w X := by rw [hX]; exact ((Below.refl _ _).alloc (Nat.le_refl _) _).alloc (by simp) _
  have hd : X.ownsRow w.heap.size 47 4 (.slice (some ⟨w.heap.size + 1, 0, none⟩) 0 0) 0 [] := by
    have := World.ownsRow_lit (size := 4) (e := 47) (w.alloc (.cells (boxL b (.slice am b.mails.length cm) (.slice at1 b.tombs.length ct1)).toArray 31)) #[] 0 (Nat.le_refl _) (Nat.zero_le _) rfl
    rw [World.size_alloc] at this
    rw [hX]
    exact g_based this (by omega)
  have BX := hide hbX
  have X0 := hide x0
  have HD := hide hd
  have HO := hide (fun (W : World) hb k f hx => ml_read (W := W) h.1 hb (k := k) (f := f) hx)
  have HX := hX.symm
  clear hX x0 hbX h hd
  go_enter Try.func7, Try.ntmps7
  go_wp2
  clear HX
  go_loopw [5, 6] (fun v i wr => ∃ k : Nat, k ≤ b.mails.length ∧ i = .int .i64 k ∧ OwnMl w.heap.size wr v (changedTo b since k) ∧ Below w.heap.size w wr ∧ HasObj wr w.heap.size 31 (boxL b (.slice am b.mails.length cm) (.slice at1 b.tombs.length ct1))) (fun _ i _ => b.mails.length - (intOf i).toNat)
  case atStart => exact ⟨0, Nat.zero_le _, rfl, unhide HD, unhide BX, unhide X0⟩
  case round =>
    obtain ⟨k, hk, rfl, hown, hbel, hob⟩ := hrel
    have k4 := hob.cell 4 rfl
    by_cases hlt : k < b.mails.length
    · have hgk : b.mails[k]? = some b.mails[k] := List.getElem?_eq_getElem hlt
      obtain ⟨g, c, e, hg, c0, c1, c2, c3⟩ := unhide HO wr hbel k _ hgk
      cases e
      have YES := hide (fun h => changed_yes (since := since) hgk h)
      have NO := hide (fun h => changed_no (since := since) hgk h)
      have LN := changed_len b since k
      have i1 : (0 : Int) ≤ (k : Int) := by omega
      have i2 : (k : Int) < (b.mails.length : Int) := by omega
      clear hgk
      generalize b.mails[k] = f at *
      have O := hide hown
      have BR := hide hbel
      have OB := hide hob
      by_cases hm : since < f.mod
      · have d1 : decide (since < f.mod) = true := decide_eq_true hm
        have yes := hide (unhide YES hm)
        have hA : Below wr.heap.size wr (wr.alloc (.cells (mlC f).toArray 47)) := (Below.refl _ _).alloc (Nat.le_refl _) _
        have nw : ∀ j u, (mlC f)[j]? = some u → (wr.alloc (.cells (mlC f).toArray 47)).cell? ((⟨wr.heap.size, 0, none⟩ : Addr).add j) = some u := fun j u hj => by
          rw [Addr.add_lit, Nat.zero_add]
          exact (HasObj.new wr 47 (mlC f)).cell j hj
        have RA := hide (g_stays hown hA)
        have OA := hide (hob.ups hA)
        have LA := hide (hbel.trans (hA.mono hbel.size))
        clear hown hbel hob hA YES NO hm
        go_wp2_with (at_builtin; refine wpList_append_own _ rfl _ _ 27 rfl w.heap.size 47 i0 _ 4 40 Try.underlying27 hi hz0 hz1 hz2 rfl (by decide) _ _ _ rfl (unhide RA) ⟨wr.heap.size, 0, none⟩ 1 1 (mlC f) rfl rfl nw ?c2 ?c3 ?c4 ?c5 ?_)
        case c2 => intro u hu; simp [mlC] at hu; rcases hu with rfl | rfl | rfl | rfl <;> rfl
        case c3 => unfold maxLen; omega
        case c4 => omega
        case c5 => exact (unhide LA).size
        intro v' w3 o3 hg3 _
        have on : OwnMl w.heap.size w3 v' (changedTo b since (k + 1)) := by
          unfold OwnMl
          rw [unhide yes, List.length_append, rowC_snoc]
          exact o3
        have ob3 := (unhide OA).kept hg3 (fun e => (unhide OA).not_row (by decide) (unhide RA) e.symm)
        have lb3 : Below w.heap.size w w3 := (unhide LA).grown hg3 (unhide LA).size (fun j hj => ((unhide RA).lt j hj).1)
        have ON := hide on
        have OB3 := hide ob3
        have LB3 := hide lb3
        clear o3 hg3 on ob3 lb3 nw
        go_wp2
        go_roundw
        case rel => exact ⟨k + 1, by omega, by go_num, unhide ON, unhide LB3, unhide OB3⟩
        case measure => simp [intOf]; omega
      · have d1 : decide (since < f.mod) = false := decide_eq_false hm
        have no := hide (unhide NO hm)
        clear hown hbel hob YES NO hm
        go_wp2
        go_roundw
        case rel => exact ⟨k + 1, by omega, by go_num, by rw [unhide no]; exact unhide O, unhide BR, unhide OB⟩
        case measure => simp [intOf]; omega
    · have e : k = b.mails.length := by omega
      subst e
      rw [changed_all] at hown
      have O := hide hown
      have BR := hide hbel
      clear hown hbel hob
      go_wp2
      go_ret
      exact ⟨_, rfl, unhide O, unhide BR⟩
end Go.Proofs.Ytkjlponggednoac
