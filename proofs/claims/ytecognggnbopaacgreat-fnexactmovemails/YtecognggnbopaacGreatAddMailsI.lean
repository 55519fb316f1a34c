/- The program's mailsIn and addMails. Made by gen_stores.py. -/
import Derived.Test.YtecognggnbopaacGreatTv
import Derived.Test.YtecognggnbopaacGreatStB
import Derived.Test.YtecognggnbopaacGreatImA
import Derived.Test.YtecognggnbopaacGreatBoxI
import Derived.Test.YtecognggnbopaacGreatIsA
import Derived.Test.YtecognggnbopaacGreatStS
import Derived.Test.YtecognggnbopaacGreatRegA
import Derived.Deep.CutRange
namespace Go.Proofs.YtecognggnbopaacGreat
open Go.RowKit
open Plain
set_option linter.unusedVariables false
set_option linter.unusedSimpArgs false

namespace Plain
def inTo (set : List Rg) (b : Bx) (k : Nat) : List Ml := (b.mails.take k).filter fun m => hasB set m.uid
theorem inTo_yes {set : List Rg} {b : Bx} {k : Nat} {m : Ml} (h : b.mails[k]? = some m) (hh : hasB set m.uid = true) : inTo set b (k + 1) = inTo set b k ++ [m] := by unfold inTo; rw [List.take_add_one, h, List.filter_append]; simp [hh]
theorem inTo_no {set : List Rg} {b : Bx} {k : Nat} {m : Ml} (h : b.mails[k]? = some m) (hh : hasB set m.uid = false) : inTo set b (k + 1) = inTo set b k := by unfold inTo; rw [List.take_add_one, h, List.filter_append]; simp [hh]
theorem inTo_len (set : List Rg) (b : Bx) (k : Nat) : (inTo set b k).length ≤ k := Nat.le_trans (List.length_filter_le _ _) (by rw [List.length_take]; omega)
theorem inTo_all (set : List Rg) (b : Bx) : inTo set b b.mails.length = inSet set b := by unfold inTo inSet; rw [List.take_length]
end Plain
set_option maxHeartbeats 8000000 in
set_option maxRecDepth 100000 in
theorem mailsIn_any (b : Bx) (m t : Value) (g : Nat) (set : List Rg) (vs : Value) (B B2 : Nat) (w : World) (hl : b.mails.length ≤ 1048576) (hs : set.length ≤ 1048576) (hg : HasObj w g 46 (lbC ⟨b, m, t⟩)) (h : OwnBx B w m t b) (h2 : OwnR B2 w vs set) :
  Calls Tryz.prog 50 #[.pointer (some ⟨g, 0, none⟩), vs] w fun e w' => ∃ v, e = .returned v ∧ OwnMl w.heap.size w' v (inSet set b) ∧ Below w.heap.size w w' := by
 obtain ⟨iM, hM, hM0, hM1, hM2⟩ := info_parts Tryz.infoMail
 obtain ⟨am, cm, rfl⟩ := g_shape h.1
 have OX := hide h.1; have RS := hide h2
 have LTX : Hid (∀ q, Value.ownBlock (.slice am b.mails.length cm) = some q → q < w.heap.size) := fun q hq => (World.ownsRow.lt h.1 q hq).2
 have gc := hg.cell 4 rfl
 simp only at gc
 clear h h2 hg; have BB := hide (Below.refl w.heap.size w)
 go_enter Tryz.func50, Tryz.ntmps50
 go_wp2
 clear gc
 go_loopw [5, 13] (fun v i wr => ∃ (k : Nat) (av : Option Addr) (cv : Nat), k ≤ b.mails.length ∧ v = .slice av (inTo set b k).length cv ∧ i = .int .i64 k ∧ OwnMl w.heap.size wr (.slice av (inTo set b k).length cv) (inTo set b k) ∧ OwnMl B wr (.slice am b.mails.length cm) b.mails ∧ OwnR B2 wr vs set ∧ Below w.heap.size w wr) (fun _ i _ => b.mails.length - (intOf i).toNat)
 case atStart => exact ⟨0, none, 0, Nat.zero_le _, rfl, rfl, World.ownsRow_nil _ _ _ _, uh OX, uh RS, uh BB⟩
 clear OX RS BB
 case round =>
  obtain ⟨k, av, cv, hk, rfl, rfl, oM, oX, oR, hbel⟩ := hrel
  obtain ⟨wo, hwo⟩ : ∃ wo, wo = wr := ⟨_, rfl⟩
  subst hwo
  by_cases hlt : k < b.mails.length
  ·have hgk : b.mails[k]? = some b.mails[k] := List.getElem?_eq_getElem hlt
   obtain ⟨gb, qb, e1, _, c0, c1, c2, c3⟩ := ml_read oX (Below.refl _ _) hgk
   have e3 := (Value.slice.inj e1).1; clear e1
   subst e3
   have LN := inTo_len set b k
   have LTM : Hid (∀ q, Value.ownBlock (.slice av (inTo set b k).length cv) = some q → q < wo.heap.size) := fun q hq => (World.ownsRow.lt oM q hq).2
   have HGK := hide hgk
   generalize b.mails[k] = f at *
   have OM := hide oM; have OX := hide oX; have RS := hide oR; have BB := hide hbel; have hlo9 := hbel.size; clear oM oX oR hbel hgk
   have i1 : (0 : Int) ≤ (k : Int) := by omega
   have i2 : (k : Int) < (b.mails.length : Int) := by omega
   obtain ⟨wmr1, hM⟩ : ∃ X, X = wo.alloc (.cells ([.int .i64 f.uid, .int .i64 f.flags, .int .i64 f.mod, .string f.text] : List Value).toArray 51) := ⟨_, rfl⟩
   have Mx : HasObj wmr1 wo.heap.size 51 [.int .i64 f.uid, .int .i64 f.flags, .int .i64 f.mod, .string f.text] := by rw [hM]; exact HasObj.new _ _ _
   have hbn : Below wo.heap.size wo wmr1 := by rw [hM]; exact (Below.refl _ _).alloc (Nat.le_refl _) _
   have loM : w.heap.size ≤ wo.heap.size := (uh BB).size
   have EM := hM.symm; clear hM; replace OM := hide ((uh OM).up hbn); replace OX := hide ((uh OX).up hbn); replace RS := hide ((uh RS).up hbn); have sz101 := hide (hbn.size); replace BB := hide (below_y (uh BB) hbn); clear hbn; have M := hide Mx; clear Mx; have Mc0_1 := (uh M).cell 0 rfl; have Mc1_1 := (uh M).cell 1 rfl; have Mc2_1 := (uh M).cell 2 rfl; have Mc3_1 := (uh M).cell 3 rfl; go_wp2_with fail; clear c0 c1 c2 c3 Mc0_1 Mc1_1 Mc2_1 Mc3_1 EM
   refine (impl_SetHas_any set vs f.uid _ hs (uh RS).wide).mono ?_
   rintro e wmr2 ⟨rfl, hb⟩
   replace M := hide ((uh M).ups hb); replace OM := hide ((uh OM).up hb); replace OX := hide ((uh OX).up hb); replace RS := hide ((uh RS).up hb); have sz102 := hide (hb.size); replace BB := hide (below_y (uh BB) hb); clear hb
   cases hd : hasB set f.uid with
   | false =>
    have NX := hide (inTo_no (uh HGK) hd)
    rw [← uh NX] at OM ⊢
    go_wp2
    go_roundw
    case rel => exact ⟨k + 1, av, cv, by omega, rfl, by go_num, uh OM, uh OX, uh RS, uh BB⟩
    case measure => simp [intOf]; omega
   | true =>
    have NX := hide (inTo_yes (uh HGK) hd); have Mc0_2 := (uh M).cell 0 rfl; have Mc1_2 := (uh M).cell 1 rfl; have Mc2_2 := (uh M).cell 2 rfl; have Mc3_2 := (uh M).cell 3 rfl; have lw3 := (uh BB).size
    go_wp2_with (at_builtin; refine wpList_append_lies _ rfl _ _ 43 rfl w.heap.size 51 iM _ 4 40 Tryz.underlying43 hM hM0 hM1 hM2 rfl (by decide) _ _ _ rfl (World.ownsRow.alloc (uh OM) _) ⟨wmr2.heap.size, 0, none⟩ 1 1 (mlC f) rfl rfl (newsC _ _) ?c2 (by decide) ?c3 ?c4 ?c5 (wmr2.heap.size + 1) (by simp) ?_)
    clear Mc0_2 Mc1_2 Mc2_2 Mc3_2
    case c2 => intro u hu; simp [mlC, tbC, rgl] at hu; (try rcases hu with rfl | rfl | rfl | rfl) <;> (try rcases hu with rfl | rfl) <;> (try subst hu) <;> rfl
    case c3 => unfold maxLen; omega
    case c4 => omega
    case c5 => have q1_ := (uh BB).size; have sz101_ := uh sz101; have sz102_ := uh sz102; simp; omega
    intro gOM3 capOM3 wma3 hown hgr hat hlt_
    have oa := World.ownsRow.alloc (uh OM) (.cells ((mlC f) : List Value).toArray 51)
    have M_ := hide (((uh M).alloc (.cells ((mlC f) : List Value).toArray 51)).kept hgr (fun e => by have q1_ := uh LTM _ e.symm; omega))
    have OX_ : Hid (OwnMl B wma3 (.slice (some ⟨gb, 0, none⟩) b.mails.length cm) (b.mails)) := g_aside (World.ownsRow.alloc (uh OX) (.cells ((mlC f) : List Value).toArray 51)) hgr (fun x hx hx2 => by have q1_ := uh LTX x hx2; have q2_ := (World.ownsRow.lt (uh OM) x hx).1; omega)
    have RS_ : Hid (OwnR B2 wma3 (vs) (set)) := g_aside (World.ownsRow.alloc (uh RS) (.cells ((mlC f) : List Value).toArray 51)) hgr (fun x hx => rows_apart (oa) (World.ownsRow.alloc (uh RS) (.cells ((mlC f) : List Value).toArray 51)) (by decide) x hx)
    have OM_ : Hid (OwnMl w.heap.size wma3 (.slice (some ⟨gOM3, 0, none⟩) ((inTo set b k).length + 1) capOM3) (inTo set b (k + 1))) := by show OwnMl _ _ _ _; rw [uh NX]; exact OwnMl.snoc hown
    have BB_ : Hid (Below w.heap.size w wma3) := ((uh BB).alloc (uh BB).size _).grown hgr (by have q1_ := (uh BB).size; simp; omega) (fun b hb => by have q2_ := (World.ownsRow.lt (uh OM) b hb).1; have q1_ := (uh BB).size; have sz101_ := uh sz101; have sz102_ := uh sz102; omega)
    have sz103 : Hid (wmr2.heap.size ≤ wma3.heap.size) := by have q3_ := hgr.size; simp at q3_; show _ ≤ _; omega
    replace M := M_; clear M_; replace OM := OM_; clear OM_; replace OX := OX_; clear OX_; replace RS := RS_; clear RS_; replace BB := BB_; clear BB_; clear hown hgr oa lw3 hat hlt_
    have e9 : (inTo set b k).length + 1 = (inTo set b (k + 1)).length := by rw [uh NX, List.length_append]; rfl
    rw [e9] at OM ⊢
    clear e9
    go_wp2
    go_roundw
    case rel => exact ⟨k + 1, _, _, by omega, rfl, by go_num, uh OM, uh OX, uh RS, uh BB⟩
    case measure => simp [intOf]; omega
  ·obtain rfl : k = b.mails.length := by omega
   have OM := hide oM; have BB := hide hbel; clear oM oX oR hbel
   go_wp2
   go_ret
   exact ⟨_, rfl, by rw [← inTo_all]; exact uh OM, uh BB⟩
theorem fill_grown {W : World} {g : Nat} {u0 u1 u2 u3 u4 u5 u6 : Value} : W.grownBy (((((((W.setCell ⟨g, 0, none⟩ u0).setCell ⟨g, 1, none⟩ u1).setCell ⟨g, 2, none⟩ u2).setCell ⟨g, 3, none⟩ u3).setCell ⟨g, 4, none⟩ u4).setCell ⟨g, 5, none⟩ u5).setCell ⟨g, 6, none⟩ u6) (some g) := g_store (g_store (g_store (g_store (g_store (g_store (g_store (g_self _ _) _) _) _) _) _) _) _
set_option maxHeartbeats 16000000 in
set_option maxRecDepth 100000 in
theorem addMails_any (b : Bx) (m t : Value) (g : Nat) (ms : List Ml) (vm : Value) (B B2 : Nat) (w : World) (hok : boxOk b = true) (hl : ms.length ≤ 1048576) (hx : ∀ x ∈ ms, x.text.size ≤ 1048576) (hB : B ≤ w.heap.size) (hg : HasObj w g 46 (lbC ⟨b, m, t⟩)) (h : OwnBx B w m t b) (h2 : OwnMl B2 w vm ms) :
  Calls Tryz.prog 49 #[.pointer (some ⟨g, 0, none⟩), vm] w fun e w' => e = .returned (.bool (addAll b ms).isSome) ∧ (∀ b', addAll b ms = some b' → ∃ m' t', boxOk b' = true ∧ HasObj w' g 46 (lbC ⟨b', m', t'⟩) ∧ OwnBx B w' m' t' b' ∧ (∀ q, m'.ownBlock = some q → m.ownBlock = some q ∨ w.heap.size ≤ q) ∧ ∀ q, t'.ownBlock = some q → t.ownBlock = some q ∨ w.heap.size ≤ q) ∧ w.grownBy w' (some g) := by
 obtain ⟨n, hn⟩ : ∃ n, n = ms.length := ⟨_, rfl⟩
 obtain ⟨av, cv, rfl⟩ := g_shape h2
 rw [← hn]
 have gm : g < w.heap.size := hg.lt
 have HN := hide hn; have HX := hide hx; have G0 := hide hg; have O0 := hide h
 have M0 : Hid (OwnMl B2 w (.slice av n cv) ms) := by show OwnMl _ _ _ _; rw [← hn] at h2; exact h2
 have BT : Hid (∀ q, (Value.slice av n cv).ownBlock = some q → q ≠ g) := fun q hq e => hg.not_row (by decide) (uh M0) (by rw [hq, e])
 rw [← hn] at hl
 clear hn hg h h2 hx
 go_enter Tryz.func49, Tryz.ntmps49
 go_wp2
 obtain ⟨REL, HREL⟩ : ∃ REL : Value → World → Prop, Hid (REL = fun i wr => ∃ (k : Nat) (x : Lb), k ≤ n ∧ i = .int .i64 k ∧ boxOk x.b = true ∧ addAll b ms = addAll x.b (ms.drop k) ∧ HasObj wr g 46 (lbC x) ∧ OwnBx B wr x.m x.t x.b ∧ (∀ q, x.m.ownBlock = some q → m.ownBlock = some q ∨ w.heap.size ≤ q) ∧ (∀ q, x.t.ownBlock = some q → t.ownBlock = some q ∨ w.heap.size ≤ q) ∧ OwnMl B2 wr (.slice av n cv) ms ∧ w.grownBy wr (some g)) := ⟨_, rfl⟩
 go_loopw [11] (fun i wr => REL i wr) (fun i _ => n - (intOf i).toNat)
 case atStart => rw [uh HREL]; exact ⟨0, ⟨b, m, t⟩, Nat.zero_le _, rfl, hok, rfl, uh G0, uh O0, fun q h => .inl h, fun q h => .inl h, uh M0, g_self _ _⟩
 clear G0 O0 M0
 case round =>
  rw [uh HREL] at hrel
  obtain ⟨k, x, hk, rfl, hxk, hall, oG, oX, am1, at1_, oM, hgr⟩ := hrel
  obtain ⟨wo, hwo⟩ : ∃ wo, wo = wr := ⟨_, rfl⟩
  subst hwo
  by_cases hlt : k < n
  ·have hkl : k < ms.length := by rw [← uh HN]; exact hlt
   have hgk : ms[k]? = some ms[k] := List.getElem?_eq_getElem hkl
   obtain ⟨gb, qb, e1, _, c0, c1, c2, c3⟩ := ml_read oM (Below.refl _ _) hgk
   have e3 := (Value.slice.inj e1).1; clear e1
   subst e3
   have htx := uh HX _ (List.getElem_mem hkl); have DK := hide (show ms.drop k = ms[k] :: ms.drop (k + 1) from List.drop_eq_getElem_cons hkl)
   generalize ms[k] = f at *
   clear hgk hkl
   obtain ⟨xb, xm, xt⟩ := x
   simp only at hxk hall oX am1 at1_
   obtain ⟨amx, cmx, rfl⟩ := g_shape oX.1
   obtain ⟨atx, ctx, rfl⟩ := g_shape oX.2
   have FX := hide (fit_ok hxk); have h30 := (head_parts (boxOk_iff.1 hxk).1).2.2.2.2.1; have HALL := hide hall; have A1 := hide am1; have A2 := hide at1_; have G := hide oG; have OX := hide oX; have OM := hide oM; have BB := hide hgr
   have hlo9 : w.heap.size ≤ wo.heap.size := hgr.size
   clear hall am1 at1_ oG oX oM hgr
   have i1 : (0 : Int) ≤ (k : Int) := by omega
   have i2 : (k : Int) < (n : Int) := by omega
   obtain ⟨wdr1, hM⟩ : ∃ X, X = wo.alloc (.cells ([.int .i64 f.uid, .int .i64 f.flags, .int .i64 f.mod, .string f.text] : List Value).toArray 51) := ⟨_, rfl⟩
   have Mx : HasObj wdr1 wo.heap.size 51 [.int .i64 f.uid, .int .i64 f.flags, .int .i64 f.mod, .string f.text] := by rw [hM]; exact HasObj.new _ _ _
   have hbn : Below wo.heap.size wo wdr1 := by rw [hM]; exact (Below.refl _ _).alloc (Nat.le_refl _) _
   have neGM : g ≠ wo.heap.size := Nat.ne_of_lt (uh G).lt
   have loM : w.heap.size ≤ wo.heap.size := (uh BB).size
   have EM := hM.symm; clear hM; replace G := hide ((uh G).ups hbn); replace OX := hide ((uh OX).up hbn); replace OM := hide ((uh OM).up hbn); have sz101 := hide (hbn.size); replace BB := hide (g_then (uh BB) hbn); clear hbn; have M := hide Mx; clear Mx; have Mc0_1 := (uh M).cell 0 rfl; have Mc1_1 := (uh M).cell 1 rfl; have Mc2_1 := (uh M).cell 2 rfl; have Mc3_1 := (uh M).cell 3 rfl; have Gc0_2 := (uh G).cell 0 rfl; have Gc1_2 := (uh G).cell 1 rfl; have Gc2_2 := (uh G).cell 2 rfl; have Gc3_2 := (uh G).cell 3 rfl; have Gc4_2 := (uh G).cell 4 rfl; have Gc5_2 := (uh G).cell 5 rfl; have Gc6_2 := (uh G).cell 6 rfl
   go_wp2
   obtain ⟨z, uid, hz⟩ : ∃ z uid, (z, uid) = addV xb f.flags f.text := ⟨_, _, rfl⟩
   have HZ := hide hz; clear hz; clear c0 c1 c2 c3 Mc0_1 Mc1_1 Mc2_1 Mc3_1 Gc0_2 Gc1_2 Gc2_2 Gc3_2 Gc4_2 Gc5_2 Gc6_2 EM; have B0 := BB
   go_cut [7, 8] from 12 to 31 (fun s7 s8 wc => ∃ (amz atz : Option Addr) (cmz ctz : Nat) (bxN : Nat), s7 = .pointer (some ⟨bxN, 0, none⟩) ∧ s8 = .int .i64 uid ∧ OwnBx wdr1.heap.size wc (.slice amz z.mails.length cmz) (.slice atz z.tombs.length ctz) z ∧ HasObj wc bxN 46 [.string z.name, .int .i64 z.valid, .int .i64 z.next, .int .i64 z.mod, .slice amz z.mails.length cmz, .slice atz z.tombs.length ctz, .int .i64 z.hor] ∧ wdr1.heap.size ≤ bxN ∧ Below wdr1.heap.size wdr1 wc)
   case first =>
    clear BB; have BB := hide (Below.refl wdr1.heap.size wdr1)
    refine wp_region_held_drew (S := fun w' => w'.cell? ⟨g, 0, none⟩ = some (.string xb.name) ∧ w'.cell? ⟨g, 1, none⟩ = some (.int .i64 xb.valid) ∧ w'.cell? ⟨g, 2, none⟩ = some (.int .i64 xb.next) ∧ w'.cell? ⟨g, 3, none⟩ = some (.int .i64 xb.mod) ∧ w'.cell? ⟨g, 4, none⟩ = some (.slice amx xb.mails.length cmx) ∧ w'.cell? ⟨g, 5, none⟩ = some (.slice atx xb.tombs.length ctx) ∧ w'.cell? ⟨g, 6, none⟩ = some (.int .i64 xb.hor) ∧ w'.cell? ⟨wo.heap.size, 0, none⟩ = some (.int .i64 f.uid) ∧ w'.cell? ⟨wo.heap.size, 1, none⟩ = some (.int .i64 f.flags) ∧ w'.cell? ⟨wo.heap.size, 2, none⟩ = some (.int .i64 f.mod) ∧ w'.cell? ⟨wo.heap.size, 3, none⟩ = some (.string f.text)) (by kernel_rfl) (⟨(uh G).cell 0 rfl, (uh G).cell 1 rfl, (uh G).cell 2 rfl, (uh G).cell 3 rfl, (uh G).cell 4 rfl, (uh G).cell 5 rfl, (uh G).cell 6 rfl, (uh M).cell 0 rfl, (uh M).cell 1 rfl, (uh M).cell 2 rfl, (uh M).cell 3 rfl⟩) (fun hHeld => ?_)
    replace G := hide ((uh G).drew); replace M := hide ((uh M).drew); replace OX := hide ((uh OX).drew); replace OM := hide ((uh OM).drew); replace BB := hide ((uh BB).drew)
    have sz102 : Hid (wdr1.heap.size ≤ wdr1.drew.heap.size) := Nat.le_refl _
    refine tv 0 16 ?_; refine tv 1 17 ?_; refine tv 2 18 ?_; refine tv 3 19 ?_; refine tv 4 20 ?_; refine tv 5 21 ?_; refine tv 6 22 ?_
    refine wpAnyH_ready (rs := [7, 11]) (by kernel_rfl) (by simp) ?_
    refine (AllReadyH.cons rfl (fun K hK => ?_) (AllReadyH.cons rfl (fun K hK => ?_) AllReadyH.nil))
    ·skip
     go_simp
     refine (impl_AddMail_any xb _ _ _ f.flags f.text _ (uh FX) (by omega) htx (uh OX)).mono ?_
     rintro e wdre2 ⟨mN, tN, rfl, oN, hb⟩
     rw [← uh HZ] at oN ⊢
     simp only at oN ⊢
     obtain ⟨amN, cmN, rfl⟩ := g_shape oN.1
     obtain ⟨atN, ctN, rfl⟩ := g_shape oN.2
     have ON_ : Hid (OwnBx wdr1.heap.size _ _ _ z) := oN.based (uh BB).size
     clear oN; replace G := hide ((uh G).ups hb); replace M := hide ((uh M).ups hb); replace OX := hide ((uh OX).up hb); replace OM := hide ((uh OM).up hb); have sz103 := hide (hb.size); replace BB := hide (below_y (uh BB) hb); clear hb; have ON := ON_; clear ON_; go_wp2_with fail
     refine hK.out _ _ (⟨(uh G).cell 0 rfl, (uh G).cell 1 rfl, (uh G).cell 2 rfl, (uh G).cell 3 rfl, (uh G).cell 4 rfl, (uh G).cell 5 rfl, (uh G).cell 6 rfl, (uh M).cell 0 rfl, (uh M).cell 1 rfl, (uh M).cell 2 rfl, (uh M).cell 3 rfl⟩) (fun hHeld2 => ?_)
     clear hK K hHeld; have hHeld := hHeld2; clear hHeld2
     try simp only [Act.put, p1, p2, p3]
     refine tv 8 15 ?_; refine tv 9 24 ?_; refine tv 10 25 ?_
     refine wpAnyH_ready (rs := [11]) (by kernel_rfl) (by simp) ?_
     refine (AllReadyH.cons rfl (fun K hK => ?_) AllReadyH.nil)
     go_simp
     obtain ⟨wdre3, hX⟩ : ∃ X, X = (wdre2.alloc (.cells ([.string ⟨#[]⟩, .int .i64 0, .int .i64 0, .int .i64 0, .slice none 0 0, .slice none 0 0, .int .i64 0] : List Value).toArray 46)) := ⟨_, rfl⟩
     rw [← hX]
     have Nx : HasObj wdre3 wdre2.heap.size 46 [.string ⟨#[]⟩, .int .i64 0, .int .i64 0, .int .i64 0, .slice none 0 0, .slice none 0 0, .int .i64 0] := by rw [hX]; exact HasObj.new _ _ _
     have hbn : Below wdre2.heap.size wdre2 wdre3 := by rw [hX]; exact (Below.refl wdre2.heap.size wdre2).alloc (Nat.le_refl _) _
     clear hX
     have neGN : g ≠ wdre2.heap.size := Nat.ne_of_lt (uh G).lt
     have neMN : wo.heap.size ≠ wdre2.heap.size := Nat.ne_of_lt (uh M).lt
     have loN : wdr1.heap.size ≤ wdre2.heap.size := (uh BB).size
     replace G := hide ((uh G).ups hbn); replace M := hide ((uh M).ups hbn); replace OX := hide ((uh OX).up hbn); replace OM := hide ((uh OM).up hbn); replace ON := hide ((uh ON).up hbn); have sz104 := hide (hbn.size); replace BB := hide (below_y (uh BB) hbn); clear hbn; have N := hide Nx; clear Nx
     refine hK.out _ _ (⟨(uh G).cell 0 rfl, (uh G).cell 1 rfl, (uh G).cell 2 rfl, (uh G).cell 3 rfl, (uh G).cell 4 rfl, (uh G).cell 5 rfl, (uh G).cell 6 rfl, (uh M).cell 0 rfl, (uh M).cell 1 rfl, (uh M).cell 2 rfl, (uh M).cell 3 rfl⟩) (fun hHeld2 => ?_)
     clear hK K hHeld; have hHeld := hHeld2; clear hHeld2
     try simp only [Act.put, p1, p2, p3]
     have Nf0 := (uh N).frozen 0; have Nf1 := (uh N).frozen 1; have Nf2 := (uh N).frozen 2; have Nf3 := (uh N).frozen 3; have Nf4 := (uh N).frozen 4; have Nf5 := (uh N).frozen 5; have Nf6 := (uh N).frozen 6; have Ne0 := (uh N).cell 0 rfl; have Ne1 := (uh N).cell 1 rfl; have Ne2 := (uh N).cell 2 rfl; have Ne3 := (uh N).cell 3 rfl; have Ne4 := (uh N).cell 4 rfl; have Ne5 := (uh N).cell 5 rfl; have Ne6 := (uh N).cell 6 rfl; have F_ := hide (fill7 (uh N) (.string z.name) (.int .i64 z.valid) (.int .i64 z.next) (.int .i64 z.mod) (.slice amN z.mails.length cmN) (.slice atN z.tombs.length ctN) (.int .i64 z.hor))
     refine wpAnyH_ready (rs := [12]) (by kernel_rfl) (by simp) ?_
     refine AllReadyH.cons rfl (fun K hK => ?_) AllReadyH.nil
     go_simp
     obtain ⟨wdre4, hU⟩ : ∃ U, U = (((((((wdre3.setCell ⟨wdre2.heap.size, 0, none⟩ (.string z.name)).setCell ⟨wdre2.heap.size, 1, none⟩ (.int .i64 z.valid)).setCell ⟨wdre2.heap.size, 2, none⟩ (.int .i64 z.next)).setCell ⟨wdre2.heap.size, 3, none⟩ (.int .i64 z.mod)).setCell ⟨wdre2.heap.size, 4, none⟩ (.slice amN z.mails.length cmN)).setCell ⟨wdre2.heap.size, 5, none⟩ (.slice atN z.tombs.length ctN)).setCell ⟨wdre2.heap.size, 6, none⟩ (.int .i64 z.hor)) := ⟨_, rfl⟩
     have F := uh F_
     rw [← hU] at F ⊢
     clear hU F_; clear Nf0 Nf1 Nf2 Nf3 Nf4 Nf5 Nf6 Ne0 Ne1 Ne2 Ne3 Ne4 Ne5 Ne6; have G_ := hide (F.other neGN (uh G)); have M_ := hide (F.other neMN (uh M)); have N_ := hide (F.obj)
     have OX_ : Hid (OwnBx B wdre4 (.slice amx xb.mails.length cmx) (.slice atx xb.tombs.length ctx) xb) := ⟨F.row (by decide) (uh OX).1, F.row (by decide) (uh OX).2⟩
     have OM_ : Hid (OwnMl B2 wdre4 (.slice (some ⟨gb, 0, none⟩) n cv) (ms)) := F.row (by decide) (uh OM)
     have ON_ : Hid (OwnBx wdr1.heap.size wdre4 (.slice amN z.mails.length cmN) (.slice atN z.tombs.length ctN) z) := ⟨F.row (by decide) (uh ON).1, F.row (by decide) (uh ON).2⟩
     have BB_ : Hid (Below wdr1.heap.size wdr1 wdre4) := F.below loN (uh BB)
     have sz105 : Hid (wdre3.heap.size ≤ wdre4.heap.size) := by show _ ≤ _; rw [F.size]; exact Nat.le_refl _
     replace G := G_; clear G_; replace M := M_; clear M_; replace N := N_; clear N_; replace OX := OX_; clear OX_; replace OM := OM_; clear OM_; replace ON := ON_; clear ON_; replace BB := BB_; clear BB_; clear F
     refine hK.out _ _ (⟨(uh G).cell 0 rfl, (uh G).cell 1 rfl, (uh G).cell 2 rfl, (uh G).cell 3 rfl, (uh G).cell 4 rfl, (uh G).cell 5 rfl, (uh G).cell 6 rfl, (uh M).cell 0 rfl, (uh M).cell 1 rfl, (uh M).cell 2 rfl, (uh M).cell 3 rfl⟩) (fun hHeld2 => ?_)
     clear hK K hHeld; have hHeld := hHeld2; clear hHeld2
     try simp only [Act.put, p1, p2, p3]
     refine tv 13 8 ?_
     refine wpAnyH_done (by kernel_rfl) ?_ _
     go_wp2
     go_meet
     case rel => exact ⟨_, _, _, _, _, rfl, rfl, uh ON, uh N, loN, uh BB⟩
    ·skip
     go_simp
     obtain ⟨wdre2, hX⟩ : ∃ X, X = (wdr1.alloc (.cells ([.string ⟨#[]⟩, .int .i64 0, .int .i64 0, .int .i64 0, .slice none 0 0, .slice none 0 0, .int .i64 0] : List Value).toArray 46)).drew := ⟨_, rfl⟩
     rw [← hX]
     have Nx : HasObj wdre2 wdr1.heap.size 46 [.string ⟨#[]⟩, .int .i64 0, .int .i64 0, .int .i64 0, .slice none 0 0, .slice none 0 0, .int .i64 0] := by rw [hX]; exact (HasObj.new _ _ _).drew
     have hbn : Below wdr1.drew.heap.size wdr1.drew wdre2 := by rw [hX]; exact (Below.refl wdr1.drew.heap.size wdr1.drew).alloc (Nat.le_refl _) _
     clear hX
     have neGN : g ≠ wdr1.heap.size := Nat.ne_of_lt (uh G).lt
     have neMN : wo.heap.size ≠ wdr1.heap.size := Nat.ne_of_lt (uh M).lt
     have loN : wdr1.heap.size ≤ wdr1.heap.size := (uh BB).size
     replace G := hide ((uh G).ups hbn); replace M := hide ((uh M).ups hbn); replace OX := hide ((uh OX).up hbn); replace OM := hide ((uh OM).up hbn); have sz103 := hide (hbn.size); replace BB := hide (below_y (uh BB) hbn); clear hbn; have N := hide Nx; clear Nx
     refine hK.out _ _ (⟨(uh G).cell 0 rfl, (uh G).cell 1 rfl, (uh G).cell 2 rfl, (uh G).cell 3 rfl, (uh G).cell 4 rfl, (uh G).cell 5 rfl, (uh G).cell 6 rfl, (uh M).cell 0 rfl, (uh M).cell 1 rfl, (uh M).cell 2 rfl, (uh M).cell 3 rfl⟩) (fun hHeld2 => ?_)
     clear hK K hHeld; have hHeld := hHeld2; clear hHeld2
     try simp only [Act.put, p1, p2, p3]
     refine wpAnyH_ready (rs := [7]) (by kernel_rfl) (by simp) ?_
     refine (AllReadyH.cons rfl (fun K hK => ?_) AllReadyH.nil)
     go_simp
     refine (impl_AddMail_any xb _ _ _ f.flags f.text _ (uh FX) (by omega) htx (uh OX)).mono ?_
     rintro e wdre3 ⟨mN, tN, rfl, oN, hb⟩
     rw [← uh HZ] at oN ⊢
     simp only at oN ⊢
     obtain ⟨amN, cmN, rfl⟩ := g_shape oN.1
     obtain ⟨atN, ctN, rfl⟩ := g_shape oN.2
     have ON_ : Hid (OwnBx wdr1.heap.size _ _ _ z) := oN.based (uh BB).size
     clear oN; replace G := hide ((uh G).ups hb); replace M := hide ((uh M).ups hb); replace N := hide ((uh N).ups hb); replace OX := hide ((uh OX).up hb); replace OM := hide ((uh OM).up hb); have sz104 := hide (hb.size); replace BB := hide (below_y (uh BB) hb); clear hb; have ON := ON_; clear ON_; go_wp2_with fail
     refine hK.out _ _ (⟨(uh G).cell 0 rfl, (uh G).cell 1 rfl, (uh G).cell 2 rfl, (uh G).cell 3 rfl, (uh G).cell 4 rfl, (uh G).cell 5 rfl, (uh G).cell 6 rfl, (uh M).cell 0 rfl, (uh M).cell 1 rfl, (uh M).cell 2 rfl, (uh M).cell 3 rfl⟩) (fun hHeld2 => ?_)
     clear hK K hHeld; have hHeld := hHeld2; clear hHeld2
     try simp only [Act.put, p1, p2, p3]
     refine tv 8 15 ?_; refine tv 9 24 ?_; refine tv 10 25 ?_
     have Nf0 := (uh N).frozen 0; have Nf1 := (uh N).frozen 1; have Nf2 := (uh N).frozen 2; have Nf3 := (uh N).frozen 3; have Nf4 := (uh N).frozen 4; have Nf5 := (uh N).frozen 5; have Nf6 := (uh N).frozen 6; have Ne0 := (uh N).cell 0 rfl; have Ne1 := (uh N).cell 1 rfl; have Ne2 := (uh N).cell 2 rfl; have Ne3 := (uh N).cell 3 rfl; have Ne4 := (uh N).cell 4 rfl; have Ne5 := (uh N).cell 5 rfl; have Ne6 := (uh N).cell 6 rfl; have F_ := hide (fill7 (uh N) (.string z.name) (.int .i64 z.valid) (.int .i64 z.next) (.int .i64 z.mod) (.slice amN z.mails.length cmN) (.slice atN z.tombs.length ctN) (.int .i64 z.hor))
     refine wpAnyH_ready (rs := [12]) (by kernel_rfl) (by simp) ?_
     refine AllReadyH.cons rfl (fun K hK => ?_) AllReadyH.nil
     go_simp
     obtain ⟨wdre4, hU⟩ : ∃ U, U = (((((((wdre3.setCell ⟨wdr1.heap.size, 0, none⟩ (.string z.name)).setCell ⟨wdr1.heap.size, 1, none⟩ (.int .i64 z.valid)).setCell ⟨wdr1.heap.size, 2, none⟩ (.int .i64 z.next)).setCell ⟨wdr1.heap.size, 3, none⟩ (.int .i64 z.mod)).setCell ⟨wdr1.heap.size, 4, none⟩ (.slice amN z.mails.length cmN)).setCell ⟨wdr1.heap.size, 5, none⟩ (.slice atN z.tombs.length ctN)).setCell ⟨wdr1.heap.size, 6, none⟩ (.int .i64 z.hor)) := ⟨_, rfl⟩
     have F := uh F_
     rw [← hU] at F ⊢
     clear hU F_; clear Nf0 Nf1 Nf2 Nf3 Nf4 Nf5 Nf6 Ne0 Ne1 Ne2 Ne3 Ne4 Ne5 Ne6; have G_ := hide (F.other neGN (uh G)); have M_ := hide (F.other neMN (uh M)); have N_ := hide (F.obj)
     have OX_ : Hid (OwnBx B wdre4 (.slice amx xb.mails.length cmx) (.slice atx xb.tombs.length ctx) xb) := ⟨F.row (by decide) (uh OX).1, F.row (by decide) (uh OX).2⟩
     have OM_ : Hid (OwnMl B2 wdre4 (.slice (some ⟨gb, 0, none⟩) n cv) (ms)) := F.row (by decide) (uh OM)
     have ON_ : Hid (OwnBx wdr1.heap.size wdre4 (.slice amN z.mails.length cmN) (.slice atN z.tombs.length ctN) z) := ⟨F.row (by decide) (uh ON).1, F.row (by decide) (uh ON).2⟩
     have BB_ : Hid (Below wdr1.heap.size wdr1 wdre4) := F.below loN (uh BB)
     have sz105 : Hid (wdre3.heap.size ≤ wdre4.heap.size) := by show _ ≤ _; rw [F.size]; exact Nat.le_refl _
     replace G := G_; clear G_; replace M := M_; clear M_; replace N := N_; clear N_; replace OX := OX_; clear OX_; replace OM := OM_; clear OM_; replace ON := ON_; clear ON_; replace BB := BB_; clear BB_; clear F
     refine hK.out _ _ (⟨(uh G).cell 0 rfl, (uh G).cell 1 rfl, (uh G).cell 2 rfl, (uh G).cell 3 rfl, (uh G).cell 4 rfl, (uh G).cell 5 rfl, (uh G).cell 6 rfl, (uh M).cell 0 rfl, (uh M).cell 1 rfl, (uh M).cell 2 rfl, (uh M).cell 3 rfl⟩) (fun hHeld2 => ?_)
     clear hK K hHeld; have hHeld := hHeld2; clear hHeld2
     try simp only [Act.put, p1, p2, p3]
     refine tv 13 8 ?_
     refine wpAnyH_done (by kernel_rfl) ?_ _
     go_wp2
     go_meet
     case rel => exact ⟨_, _, _, _, _, rfl, rfl, uh ON, uh N, loN, uh BB⟩
   case rest =>
    obtain ⟨amN, atN, cmN, ctN, bxN, rfl, rfl, oN, obN, hloN, hb⟩ := hcut
    obtain ⟨wdr2, rfl⟩ : ∃ x, x = wc := ⟨_, rfl⟩
    have neGN : g ≠ bxN := Nat.ne_of_lt (Nat.lt_of_lt_of_le (uh G).lt hloN)
    have neMN : wo.heap.size ≠ bxN := Nat.ne_of_lt (Nat.lt_of_lt_of_le (uh M).lt hloN)
    have loN : w.heap.size ≤ bxN := Nat.le_trans (uh BB).size hloN
    clear B0; replace G := hide ((uh G).ups hb); replace M := hide ((uh M).ups hb); replace OX := hide ((uh OX).up hb); replace OM := hide ((uh OM).up hb); have sz102 := hide (hb.size); replace BB := hide (g_then (uh BB) hb); clear hb; have N := hide obN; clear obN; have NN := hide (OwnBx.base oN); have ON := hide oN; clear oN
    have EU2 : Hid (uid = (addV xb f.flags f.text).2) := congrArg Prod.snd (uh HZ)
    have EZ2 : Hid (z = (addV xb f.flags f.text).1) := congrArg Prod.fst (uh HZ)
    have hszW : Hid (w.heap.size ≤ wdr1.heap.size) := by show _ ≤ _; have sz101_ := uh sz101; have sz102_ := uh sz102; omega
    by_cases hu : uid = 0
    ·have d0 : (uid == 0) = true := beq_iff_eq.2 hu
     have NO : Hid (addAll b ms = none) := by show _ = _; rw [uh HALL, uh DK]; exact addAll_no (by rw [← uh EU2]; exact hu)
     clear hu
     go_wp2
     go_ret
     exact ⟨by rw [uh NO]; rfl, fun b9 h9 => (by rw [uh NO] at h9; cases h9), uh BB⟩
    ·have d0 : (uid == 0) = false := beq_eq_false_iff_ne.2 hu
     have YES : Hid (addAll b ms = addAll z (ms.drop (k + 1))) := by show _ = _; rw [uh HALL, uh DK, addAll_yes (by rw [← uh EU2]; exact hu), ← uh EZ2]
     have ZOK : Hid (boxOk z = true) := by show _ = _; rw [uh EZ2]; exact addV_ok (by rw [← uh EU2]; exact hu)
     clear hu; have Nc0_3 := (uh N).cell 0 rfl; have Nc1_3 := (uh N).cell 1 rfl; have Nc2_3 := (uh N).cell 2 rfl; have Nc3_3 := (uh N).cell 3 rfl; have Nc4_3 := (uh N).cell 4 rfl; have Nc5_3 := (uh N).cell 5 rfl; have Nc6_3 := (uh N).cell 6 rfl; have Gf0 := (uh G).frozen 0; have Gf1 := (uh G).frozen 1; have Gf2 := (uh G).frozen 2; have Gf3 := (uh G).frozen 3; have Gf4 := (uh G).frozen 4; have Gf5 := (uh G).frozen 5; have Gf6 := (uh G).frozen 6; have Ge0 := (uh G).cell 0 rfl; have Ge1 := (uh G).cell 1 rfl; have Ge2 := (uh G).cell 2 rfl; have Ge3 := (uh G).cell 3 rfl; have Ge4 := (uh G).cell 4 rfl; have Ge5 := (uh G).cell 5 rfl; have Ge6 := (uh G).cell 6 rfl; have F_ := fill7 (uh G) (.string z.name) (.int .i64 z.valid) (.int .i64 z.next) (.int .i64 z.mod) (.slice amN z.mails.length cmN) (.slice atN z.tombs.length ctN) (.int .i64 z.hor); have FG := @fill_grown wdr2 g (.string z.name) (.int .i64 z.valid) (.int .i64 z.next) (.int .i64 z.mod) (.slice amN z.mails.length cmN) (.slice atN z.tombs.length ctN) (.int .i64 z.hor)
     obtain ⟨wdy3, hU⟩ : ∃ X, X = (((((((wdr2.setCell ⟨g, 0, none⟩ (.string z.name)).setCell ⟨g, 1, none⟩ (.int .i64 z.valid)).setCell ⟨g, 2, none⟩ (.int .i64 z.next)).setCell ⟨g, 3, none⟩ (.int .i64 z.mod)).setCell ⟨g, 4, none⟩ (.slice amN z.mails.length cmN)).setCell ⟨g, 5, none⟩ (.slice atN z.tombs.length ctN)).setCell ⟨g, 6, none⟩ (.int .i64 z.hor)) := ⟨_, rfl⟩
     rw [← hU] at F_ FG
     have EU := hU.symm; clear hU; have G_ := hide F_.obj
     have OM_ : Hid (OwnMl B2 wdy3 (.slice (some ⟨gb, 0, none⟩) n cv) ms) := F_.row (by decide) (uh OM)
     have ON_ : Hid (OwnBx wdr1.heap.size wdy3 (.slice amN z.mails.length cmN) (.slice atN z.tombs.length ctN) z) := ⟨F_.row (by decide) (uh ON).1, F_.row (by decide) (uh ON).2⟩
     have BB_ := hide (g_join (uh BB) FG); have OZ9 := hide ((uh ON_).based (show B ≤ wdr1.heap.size from Nat.le_trans hB (uh hszW))); clear F_ FG G OM ON BB OX M N; have G := G_; have OM := OM_; have BB := BB_; clear G_ OM_ ON_ BB_
     go_wp2
     clear EU
     go_roundw
     case rel => rw [uh HREL]; exact ⟨k + 1, ⟨z, .slice amN z.mails.length cmN, .slice atN z.tombs.length ctN⟩, by omega, by go_num, uh ZOK, uh YES, uh G, uh OZ9, fun q hq => .inr (Nat.le_trans (uh hszW) (uh NN q (.inl hq)).1), fun q hq => .inr (Nat.le_trans (uh hszW) (uh NN q (.inr hq)).1), uh OM, uh BB⟩
     case measure => simp [intOf]; omega
  ·obtain rfl : k = n := by omega
   have hd : ms.drop k = [] := List.drop_of_length_le (by have := uh HN; omega)
   rw [hd] at hall
   have ALL : Hid (addAll b ms = some x.b) := hall
   have G := hide oG; have OX := hide oX; have A1 := hide am1; have A2 := hide at1_; have BB := hide hgr; have XK := hide hxk; clear oG oX am1 at1_ hgr oM hall hd hxk
   go_wp2
   go_ret
   exact ⟨by rw [uh ALL]; rfl, fun b9 h9 => by rw [uh ALL] at h9; cases h9; exact ⟨_, _, uh XK, uh G, uh OX, uh A1, uh A2⟩, uh BB⟩
end Go.Proofs.YtecognggnbopaacGreat
