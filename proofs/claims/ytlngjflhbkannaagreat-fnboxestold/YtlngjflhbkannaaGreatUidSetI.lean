/- Sets of Uids: the program's uidSet. Made by gen_uidset.py. -/
import Derived.Test.YtlngjflhbkannaaGreatUnited
import Derived.Test.YtlngjflhbkannaaGreatBoxP
import Derived.Test.YtlngjflhbkannaaGreatIntRow
import Derived.Test.YtlngjflhbkannaaGreatBoxA
import Derived.Shelf.SlSortCmp.NoneTotal
namespace Go.Proofs.YtlngjflhbkannaaGreat
open Go.RowKit
open Plain
set_option linter.unusedVariables false
set_option linter.unusedSimpArgs false


theorem OwnR.snoc {B : Nat} {w : World} {v : Value} {l : List Rg} {x : Rg} (h : w.ownsRow B 106 2 v (l.length + 1) (rgs l ++ rgl x)) : OwnR B w v (l ++ [x]) := by
 unfold OwnR
 rw [rgs_append, List.length_append]
 exact h
set_option maxHeartbeats 1000000 in
theorem sortFunc_none (w : World) :
  Calls Tryz.prog 155 #[.slice none 0 0, .func (.func 156) #[] #[]] w fun e w' => e = .returned (.tuple #[]) ∧ w' = w := by
 have hcon := AnyF.pdqsortCmpFunc_none Tryz.laysPdq none 0 (Lib.bitLen 0 : Nat) (.func (.func 156) #[] #[]) w
 change Calls Tryz.prog 175 _ _ _ at hcon
 have hp := hide hcon
 have hl : Hid (Calls Tryz.prog 164 #[.int .u64 0] w fun e w' => e = .returned (.int .i64 (Lib.bitLen 0 : Nat)) ∧ w' = w) := Tryz.bits_Len 0 w (by omega) (by omega)
 clear hcon
 generalize Lib.bitLen 0 = bl at *
 go_enter Tryz.func155, Tryz.ntmps155
 go_wp2_with fail
 refine (uh hl).mono ?_
 rintro e w1 ⟨rfl, hw⟩
 subst w1
 go_wp2_with fail
 refine (uh hp).mono ?_
 rintro e w2 ⟨rfl, hw⟩
 subst w2
 go_wp2
 go_end0
 exact ⟨rfl, rfl⟩
set_option maxHeartbeats 1000000 in
theorem united_none (w : World) : Calls Tryz.prog 130 #[.slice none 0 0] w fun e w' => e = .returned (.slice none 0 0) ∧ w' = w := by
 have SF := hide (sortFunc_none w)
 go_enter Tryz.func130, Tryz.ntmps130
 go_wp2_with fail
 refine (uh SF).mono ?_
 rintro e w1 ⟨rfl, hw⟩
 subst w1
 go_wp2
 go_loopw [3, 11] (fun u i wr => u = .slice none 0 0 ∧ i = .int .i64 0 ∧ wr = w) (fun _ _ _ => 0)
 case atStart => exact ⟨rfl, rfl, rfl⟩
 case round =>
  obtain ⟨rfl, rfl, rfl⟩ := hrel
  go_wp2
  go_ret
  exact ⟨rfl, rfl⟩
namespace Plain
def onesTo (l : List Int) (k : Nat) : List Rg := (l.take k).map oneR
theorem onesTo_next {l : List Int} {k : Nat} {u : Int} (h : l[k]? = some u) : onesTo l (k + 1) = onesTo l k ++ [oneR u] := by unfold onesTo; rw [List.take_add_one, h, List.map_append]; rfl
theorem onesTo_len (l : List Int) (k : Nat) : (onesTo l k).length ≤ l.length := by simp [onesTo]; omega
theorem onesTo_all (l : List Int) : onesTo l l.length = l.map oneR := by simp [onesTo]
end Plain
set_option maxHeartbeats 4000000 in
set_option maxRecDepth 100000 in
theorem uidSet_any (l : List Int) (v : Value) (B : Nat) (w : World) (hs : l.length ≤ 40) (hu : ∀ u ∈ l, 1 ≤ u ∧ u ≤ 9999) (h : OwnI B w v l) :
  Calls Tryz.prog 74 #[v] w fun e w' => ∃ u, e = .returned u ∧ OwnR w.heap.size w' u (uidsV l) ∧ Below w.heap.size w w' := by
 obtain ⟨iR, hR, hR0, hR1, hR2⟩ := info_parts Tryz.infoRange
 obtain ⟨a0, c0, rfl⟩ := g_shape h
 have HO := hide h; have HU := hide hu; clear h hu
 go_enter Tryz.func74, Tryz.ntmps74
 go_wp2
 go_loopw [3, 8] (fun s i wr => ∃ k : Nat, k ≤ l.length ∧ i = .int .i64 k ∧ OwnR w.heap.size wr s (onesTo l k) ∧ Below w.heap.size w wr) (fun _ i _ => l.length - (intOf i).toNat)
 case atStart => exact ⟨0, Nat.zero_le _, rfl, World.ownsRow_nil _ _ _ _, Below.refl _ _⟩
 case round =>
  obtain ⟨k, hk, rfl, hown, hbel⟩ := hrel
  obtain ⟨wo, hwo⟩ : ∃ wo, wo = wr := ⟨_, rfl⟩
  subst hwo
  by_cases hlt : k < l.length
  ·obtain ⟨av, cv, rfl⟩ := g_shape hown
   have hgk : l[k]? = some l[k] := List.getElem?_eq_getElem hlt
   obtain ⟨g, c, e, _, hg, c0⟩ := OwnI.cell ((uh HO).up hbel) hgk
   cases e
   have NX := hide (onesTo_next hgk); have LN := onesTo_len l k
   generalize l[k] = u at *
   have i1 : (0 : Int) ≤ (k : Int) := by omega
   have i2 : (k : Int) < (l.length : Int) := by omega
   have OO := hide hown; have BB := hide hbel; clear hown hbel hgk; have lw1 := (uh BB).size
   go_wp2_with (at_builtin; refine wpList_append_own _ rfl _ _ 176 rfl w.heap.size 106 iR _ 2 16 Tryz.underlying176 hR hR0 hR1 hR2 rfl (by decide) _ _ _ rfl (World.ownsRow.alloc (uh OO) _) ⟨wo.heap.size, 0, none⟩ 1 1 (rgl (oneR u)) rfl rfl (newsC _ _) ?c2 ?c3 ?c4 ?c5 ?_)
   case c2 => intro u hu; simp [mlC, tbC, rgl] at hu; (try rcases hu with rfl | rfl | rfl | rfl) <;> (try rcases hu with rfl | rfl) <;> (try subst hu) <;> rfl
   case c3 => unfold maxLen; omega
   case c4 => omega
   case c5 => have q1_ := (uh BB).size; simp; omega
   intro vOO1 wr1 hown hgr _
   have oa := World.ownsRow.alloc (uh OO) (.cells ((rgl (oneR u)) : List Value).toArray 106)
   have OO_ : Hid (OwnR w.heap.size wr1 vOO1 (onesTo l (k + 1))) := by show OwnR _ _ _ _; rw [uh NX]; exact OwnR.snoc hown
   have BB_ : Hid (Below w.heap.size w wr1) := ((uh BB).alloc (uh BB).size _).grown hgr (by have q1_ := (uh BB).size; simp; omega) (fun b hb => by have q2_ := (World.ownsRow.lt (uh OO) b hb).1; have q1_ := (uh BB).size; omega)
   have sz1 : Hid (wo.heap.size ≤ wr1.heap.size) := by have q3_ := hgr.size; simp at q3_; show _ ≤ _; omega
   replace OO := OO_; clear OO_; replace BB := BB_; clear BB_; clear hown hgr oa lw1
   go_wp2
   go_roundw
   case rel => exact ⟨k + 1, by omega, by go_num, uh OO, uh BB⟩
   case measure => simp [intOf]; omega
  ·obtain rfl : k = l.length := by omega
   rw [onesTo_all] at hown
   have BB := hide hbel
   rcases hown.2 with ⟨e, h0⟩ | ⟨g, c, cur, e, hgb, _⟩
   ·have l0 : l = [] := by
     have : l.length = 0 := by simpa using h0
     exact List.length_eq_zero_iff.1 this
    subst l0
    subst e
    have Q := hide (united_none wo); clear hown hbel; go_wp2_with fail
    refine (uh Q).mono ?_
    rintro e w1 ⟨rfl, hw⟩
    subst w1
    go_wp2
    go_ret
    exact ⟨_, rfl, World.ownsRow_nil _ _ _ _, uh BB⟩
   ·have el : (l.map oneR).length = l.length := by simp
    rw [el] at e
    subst e
    have Q := impl_united_any (l.map oneR) g c w.heap.size wo (by simp; omega) (fun r hr => by
     obtain ⟨u, hu', rfl⟩ := List.mem_map.1 hr
     have := uh HU u hu'
     exact ⟨this.1, Int.le_refl _, this.2⟩) (by rw [el]; exact hown) hbel.size
    rw [el] at Q
    have Q := hide Q; clear hown hbel el; go_wp2_with fail
    refine (uh Q).mono ?_
    rintro e w1 ⟨u, t, rfl, hp, hs2, ou, hb⟩
    have UU := hide (united_uids hs (uh HU) hp hs2); have OU := hide ou; have B1 := hide ((uh BB).trans hb); clear hp hs2 ou hb
    go_wp2
    go_ret
    exact ⟨_, rfl, by rw [← uh UU]; exact g_based (uh OU) (uh BB).size, uh B1⟩
end Go.Proofs.YtlngjflhbkannaaGreat
