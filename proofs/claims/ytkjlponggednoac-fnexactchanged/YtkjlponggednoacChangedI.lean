/- Boxes: the program's Changed. Made by gen_changedi.py. -/
import Derived.Test.YtkjlponggednoacCopyI
import Derived.Test.YtkjlponggednoacChangedS
namespace Go.Proofs.Ytkjlponggednoac
open Go.RowKit
open Plain
set_option linter.unusedVariables false
set_option linter.unusedSimpArgs false

set_option maxHeartbeats 8000000 in
set_option maxRecDepth 100000 in
theorem impl_Changed_any (b : Bx) (m t : Value) (B : Nat) (since : Int) (w : World) (hf : FitBx b) (h : OwnBx B w m t b) :
    Calls Try.prog 9 #[boxV b m t, .int .i64 since] w fun e w' => ∃ v, e = .returned v ∧ OwnMl w.heap.size w' v (changedL b since) ∧ Below w.heap.size w w' := by
  obtain ⟨iM, hM, hM0, hM1, hM2⟩ := info_parts Try.infoMail
  have hl1 := hf.mails
  have TX := hide hf.texts
  have HM := hide (fun (W : World) hb k f hx => ml_read (W := W) h.1 hb (k := k) (f := f) hx)
  obtain ⟨am, cm, rfl⟩ := g_shape h.1
  obtain ⟨at1, ct1, rfl⟩ := g_shape h.2
  clear h hf
  have BB := hide (Below.refl w.heap.size w)
  obtain ⟨w1, hP⟩ : ∃ X, X = w.alloc (.cells ([.string b.name, .int .i64 b.valid, .int .i64 b.next, .int .i64 b.mod, .slice am b.mails.length cm, .slice at1 b.tombs.length ct1, .int .i64 b.hor] : List Value).toArray 31) := ⟨_, rfl⟩
  have Px : HasObj w1 w.heap.size 31 [.string b.name, .int .i64 b.valid, .int .i64 b.next, .int .i64 b.mod, .slice am b.mails.length cm, .slice at1 b.tombs.length ct1, .int .i64 b.hor] := by rw [hP]; exact HasObj.new _ _ _
  have hbn : Below w.heap.size w w1 := by rw [hP]; exact (Below.refl _ _).alloc (Nat.le_refl _) _
  have loP : w.heap.size ≤ w.heap.size := (unhide BB).size
  have EP := hP.symm
  clear hP
  have sz1 := hide (hbn.size)
  have BB_ := hide (below_y (unhide BB) hbn)
  clear BB
  have BB := BB_
  clear BB_
  clear hbn
  have P := hide Px
  clear Px
  have Pc0_1 := (unhide P).cell 0 rfl
  have Pc1_1 := (unhide P).cell 1 rfl
  have Pc2_1 := (unhide P).cell 2 rfl
  have Pc3_1 := (unhide P).cell 3 rfl
  have Pc4_1 := (unhide P).cell 4 rfl
  have Pc5_1 := (unhide P).cell 5 rfl
  have Pc6_1 := (unhide P).cell 6 rfl
  go_enter Try.func9, Try.ntmps9
  go_wp2
  clear Pc0_1 Pc1_1 Pc2_1 Pc3_1 Pc4_1 Pc5_1 Pc6_1 EP
  go_loopw [5, 11] (fun v i wr => ∃ k : Nat, k ≤ b.mails.length ∧ i = .int .i64 k ∧ HasObj wr w.heap.size 31 [.string b.name, .int .i64 b.valid, .int .i64 b.next, .int .i64 b.mod, .slice am b.mails.length cm, .slice at1 b.tombs.length ct1, .int .i64 b.hor] ∧ OwnMl w.heap.size wr v (changedTo b since k) ∧ Below w.heap.size w wr) (fun _ i _ => b.mails.length - (intOf i).toNat)
  case atStart => exact ⟨0, Nat.zero_le _, rfl, unhide P, World.ownsRow_nil _ _ _ _, unhide BB⟩
  clear P BB
  case round =>
    obtain ⟨k, hk, rfl, hP, hown, hbel⟩ := hrel
    obtain ⟨wo, hwo⟩ : ∃ wo, wo = wr := ⟨_, rfl⟩
    subst hwo
    by_cases hlt : k < b.mails.length
    · have hgk : b.mails[k]? = some b.mails[k] := List.getElem?_eq_getElem hlt
      obtain ⟨av, cv, rfl⟩ := g_shape hown
      obtain ⟨g, c, e, hg, c0, c1, c2, c3⟩ := unhide HM wo hbel k _ hgk
      cases e
      have htx := unhide TX _ (List.getElem_mem hlt)
      have YES := hide (fun h => changed_yes (since := since) hgk h)
      have NO := hide (fun h => changed_no (since := since) hgk h)
      have LN := changed_len b since k
      generalize b.mails[k] = f at *
      have i1 : (0 : Int) ≤ (k : Int) := by omega
      have i2 : (k : Int) < (b.mails.length : Int) := by omega
      have P := hide hP
      have OM := hide hown
      have BB := hide hbel
      clear hP hown hbel hgk
      obtain ⟨wr2, hM⟩ : ∃ X, X = wo.alloc (.cells ([.int .i64 f.uid, .int .i64 f.flags, .int .i64 f.mod, .string f.text] : List Value).toArray 47) := ⟨_, rfl⟩
      have Mx : HasObj wr2 wo.heap.size 47 [.int .i64 f.uid, .int .i64 f.flags, .int .i64 f.mod, .string f.text] := by rw [hM]; exact HasObj.new _ _ _
      have hbn : Below wo.heap.size wo wr2 := by rw [hM]; exact (Below.refl _ _).alloc (Nat.le_refl _) _
      have nePM : w.heap.size ≠ wo.heap.size := Nat.ne_of_lt (unhide P).lt
      have loM : w.heap.size ≤ wo.heap.size := (unhide BB).size
      have EM := hM.symm
      clear hM
      have P_ := hide ((unhide P).ups hbn)
      clear P
      have P := P_
      clear P_
      have OM_ := hide ((unhide OM).up hbn)
      clear OM
      have OM := OM_
      clear OM_
      have sz2 := hide (hbn.size)
      have BB_ := hide (below_y (unhide BB) hbn)
      clear BB
      have BB := BB_
      clear BB_
      clear hbn
      have M := hide Mx
      clear Mx
      have Mc0_2 := (unhide M).cell 0 rfl
      have Mc1_2 := (unhide M).cell 1 rfl
      have Mc2_2 := (unhide M).cell 2 rfl
      have Mc3_2 := (unhide M).cell 3 rfl
      by_cases hm : since < f.mod
      · have dm : decide (since < f.mod) = true := decide_eq_true hm
        have NX := hide (unhide YES hm)
        clear YES NO hm
        go_wp2_with fail
        clear Mc0_2 Mc1_2 Mc2_2 Mc3_2 EM
        refine (copiedMail_any f _ (by omega)).mono ?_
        rintro e wr3 ⟨rfl, hb⟩
        have P_ := hide ((unhide P).ups hb)
        clear P
        have P := P_
        clear P_
        have M_ := hide ((unhide M).ups hb)
        clear M
        have M := M_
        clear M_
        have OM_ := hide ((unhide OM).up hb)
        clear OM
        have OM := OM_
        clear OM_
        have sz3 := hide (hb.size)
        have BB_ := hide (below_y (unhide BB) hb)
        clear BB
        have BB := BB_
        clear BB_
        clear hb
        clear M c0 c1 c2 c3
        have lw4 := (unhide BB).size
        go_wp2_with (at_builtin; refine wpList_append_own _ rfl _ _ 27 rfl w.heap.size 47 iM _ 4 40 Try.underlying27 hM hM0 hM1 hM2 rfl (by decide) _ _ _ rfl (World.ownsRow.alloc (unhide OM) _) ⟨wr3.heap.size, 0, none⟩ 1 1 (mlC f) rfl rfl (newsC _ _) ?c2 ?c3 ?c4 ?c5 ?_)
        case c2 => intro u hu; simp [mlC, tbC, rgl] at hu; (try rcases hu with rfl | rfl | rfl | rfl) <;> (try rcases hu with rfl | rfl) <;> (try subst hu) <;> rfl
        case c3 => unfold maxLen; omega
        case c4 => omega
        case c5 => have q1_ := (unhide BB).size; have sz1_ := unhide sz1; have sz2_ := unhide sz2; have sz3_ := unhide sz3; simp; omega
        intro vOM4 wr4 hown hgr _
        have oa := World.ownsRow.alloc (unhide OM) (.cells ((mlC f) : List Value).toArray 47)
        have P_ := hide (((unhide P).alloc (.cells ((mlC f) : List Value).toArray 47)).kept hgr (fun e => ((unhide P).alloc (.cells ((mlC f) : List Value).toArray 47)).not_row (by decide) oa e.symm))
        have OM_ : Hid (OwnMl w.heap.size wr4 vOM4 (changedTo b since (k + 1))) := by show OwnMl _ _ _ _; rw [unhide NX]; exact OwnMl.snoc hown
        have BB_ : Hid (Below w.heap.size w wr4) := ((unhide BB).alloc (unhide BB).size _).grown hgr (by have q1_ := (unhide BB).size; simp; omega) (fun b hb => by have q2_ := (World.ownsRow.lt (unhide OM) b hb).1; have q1_ := (unhide BB).size; have sz1_ := unhide sz1; have sz2_ := unhide sz2; have sz3_ := unhide sz3; omega)
        have sz4 : Hid (wr3.heap.size ≤ wr4.heap.size) := by have q3_ := hgr.size; simp at q3_; show _ ≤ _; omega
        clear P
        have P := P_
        clear P_
        clear OM
        have OM := OM_
        clear OM_
        clear BB
        have BB := BB_
        clear BB_
        clear hown hgr oa lw4
        go_wp2
        go_roundw
        case rel => exact ⟨k + 1, by omega, by go_num, unhide P, unhide OM, unhide BB⟩
        case measure => simp [intOf]; omega
      · have dm : decide (since < f.mod) = false := decide_eq_false hm
        have NX := hide (unhide NO hm)
        clear YES NO hm
        go_wp2
        go_roundw
        case rel => exact ⟨k + 1, by omega, by go_num, unhide P, by rw [unhide NX]; exact unhide OM, unhide BB⟩
        case measure => simp [intOf]; omega
    · obtain rfl : k = b.mails.length := by omega
      rw [changed_all] at hown
      have OM := hide hown
      have BB := hide hbel
      clear hP hown hbel
      go_wp2
      go_ret
      exact ⟨_, rfl, unhide OM, unhide BB⟩
end Go.Proofs.Ytkjlponggednoac
