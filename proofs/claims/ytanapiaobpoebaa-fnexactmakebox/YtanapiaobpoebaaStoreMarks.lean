/- Rows of boxes that are the same; marks in them; stores, and a store that came in, opened. Made by gen_storemarks.py. -/
import Derived.Test.YtanapiaobpoebaaTv
import Derived.Test.YtanapiaobpoebaaStoreRow
import Derived.Test.YtanapiaobpoebaaRegA
namespace Go.Proofs.Ytanapiaobpoebaa
open Go.RowKit Go.ChangeShapes Go.WideShapes Go.ChangeAt Go.Deep
open Plain
set_option linter.unusedVariables false
set_option linter.unusedSimpArgs false

theorem br_of {B g n c : Nat} {w : World} {L : List Lb} (h : OwnBr B w (.slice (some ⟨g, 0, none⟩) n c) L) {k : Nat} {x : Lb} (hx : L[k]? = some x) : w.cell? ⟨g, k * 7, none⟩ = some (.string x.b.name) ∧ w.cell? ⟨g, k * 7 + 1, none⟩ = some (.int .i64 x.b.valid) ∧ w.cell? ⟨g, k * 7 + 2, none⟩ = some (.int .i64 x.b.next) ∧ w.cell? ⟨g, k * 7 + 3, none⟩ = some (.int .i64 x.b.mod) ∧ w.cell? ⟨g, k * 7 + 4, none⟩ = some (x.m) ∧ w.cell? ⟨g, k * 7 + 5, none⟩ = some (x.t) ∧ w.cell? ⟨g, k * 7 + 6, none⟩ = some (.int .i64 x.b.hor) := by
 obtain ⟨g', c', e, _, _, hc⟩ := br_read h hx
 have e1 := Option.some.inj (Value.slice.inj e).1
 have e2 : g = g' := by injection e1
 subst e2
 exact hc
theorem gb_below {w W W' : World} {S : Nat → Prop} (h : GrownBut w W S) (hb : Below W.heap.size W W') : GrownBut w W' S :=
 (h.then (GrownBut.below hb rfl)).mono (fun k _ hk => hk.elim id False.elim)
theorem gb_grown {w W W' : World} {S : Nat → Prop} {row : Option Nat} (h : GrownBut w W S) (hg : W.grownBy W' row) (hr : ∀ k, row = some k → S k) : GrownBut w W' S :=
 (h.then (GrownBut.of hg)).mono (fun k _ hk => hk.elim id (hr k))
theorem gb_self (w : World) (S : Nat → Prop) : GrownBut w w S := ⟨rfl, rfl, rfl, Nat.le_refl _, fun _ _ _ => rfl⟩
theorem EachB.markM {B B2 : Nat} {W W' : World} {l : List Lb} {xm : Value} {ms : List Ml} (h : EachB B W l) (hx : OwnMl B2 W xm ms) (hg : W.grownBy W' xm.ownBlock) (hap : ∀ z ∈ l, ∀ g, xm.ownBlock = some g → z.m.ownBlock ≠ some g) : EachB B W' l :=
 fun z hz => ⟨g_aside (h z hz).1 hg (fun k hk => hap z hz k hk), g_aside (h z hz).2 hg (fun k hk => rows_apart hx (h z hz).2 (by decide) k hk)⟩
theorem EachB.markT {B B2 : Nat} {W W' : World} {l : List Lb} {xt : Value} {ts : List Tb} (h : EachB B W l) (hx : OwnTb B2 W xt ts) (hg : W.grownBy W' xt.ownBlock) (hap : ∀ z ∈ l, ∀ g, xt.ownBlock = some g → z.t.ownBlock ≠ some g) : EachB B W' l :=
 fun z hz => ⟨g_aside (h z hz).1 hg (fun k hk => rows_apart hx (h z hz).1 (by decide) k hk), g_aside (h z hz).2 hg (fun k hk => hap z hz k hk)⟩
namespace Plain
def stepB (b : Bx) : Nat := 5 + b.mails.length * 4 + b.tombs.length * 2
def sumB (l : List Lb) : Nat := (l.map fun x => stepB x.b).sum
theorem sumB_snoc (l : List Lb) (x : Lb) : sumB (l ++ [x]) = sumB l + stepB x.b := by simp [sumB]
theorem sumB_le (l : List Lb) : sumB l ≤ 5 * sizeBs (l.map (·.b)) := by
 induction l with
 | nil => exact Nat.le_refl _
 | cons x l ih =>
  simp only [sumB, sizeBs, stepB, List.map_cons, List.sum_cons] at *
  omega
def markLb (K : Nat) (x : Lb) : Lb := ⟨⟨⟨(mkL K).toArray⟩, (K : Int) + 1, (K : Int) + 1 + 1, (K : Int) + 1 + 1 + 1, marksK mkMl 4 (K + 4) x.b.mails.length, marksK mkTb 2 (K + 4 + x.b.mails.length * 4) x.b.tombs.length, ((K + 4 + x.b.mails.length * 4 + x.b.tombs.length * 2 : Nat) : Int)⟩, x.m, x.t⟩
def markBs : Nat → List Lb → List Lb
 | _, [] => []
 | K, x :: l => markLb K x :: markBs (K + stepB x.b) l
theorem markBs_snoc : ∀ (l : List Lb) (K : Nat) (x : Lb), markBs K (l ++ [x]) = markBs K l ++ [markLb (K + sumB l) x] := by
 intro l
 induction l with
 | nil => intro K x; rfl
 | cons y l ih =>
  intro K x
  show markLb K y :: markBs (K + stepB y.b) (l ++ [x]) = _
  rw [ih]
  show _ = markLb K y :: (markBs (K + stepB y.b) l ++ [markLb (K + sumB (y :: l)) x])
  rw [show K + sumB (y :: l) = K + stepB y.b + sumB l from by simp [sumB]; omega]
theorem markBs_len : ∀ (l : List Lb) (K : Nat), (markBs K l).length = l.length := by
 intro l
 induction l with
 | nil => intro K; rfl
 | cons y l ih => intro K; show (markBs (K + stepB y.b) l).length + 1 = l.length + 1; rw [ih]
theorem markBs_mem : ∀ (l : List Lb) (K : Nat) (z : Lb), z ∈ markBs K l → ∃ y ∈ l, z.m = y.m ∧ z.t = y.t := by
 intro l
 induction l with
 | nil => intro K z hz; cases hz
 | cons y l ih =>
  intro K z hz
  rcases List.mem_cons.1 hz with rfl | hz
  ·exact ⟨y, by simp, rfl, rfl⟩
  ·obtain ⟨y', h1, h2⟩ := ih _ z hz
   exact ⟨y', by simp [h1], h2⟩
theorem markBs_get : ∀ (l : List Lb) (K k : Nat) (x : Lb), l[k]? = some x → (markBs K l)[k]? = some (markLb (K + sumB (l.take k)) x) := by
 intro l
 induction l with
 | nil => intro K k x h; simp at h
 | cons y l ih =>
  intro K k x h
  cases k with
  | zero => simp at h; subst h; rfl
  | succ k =>
   have h2 : l[k]? = some x := by simpa using h
   have := ih (K + stepB y.b) k x h2
   show (markBs (K + stepB y.b) l)[k]? = _
   rw [this, show K + stepB y.b + sumB (l.take k) = K + sumB ((y :: l).take (k + 1)) from by simp [sumB]; omega]
theorem take_snoc {α : Type} {l : List α} {k : Nat} {x : α} (h : l[k]? = some x) : l.take (k + 1) = l.take k ++ [x] := by rw [List.take_add_one, h]; rfl
theorem drop_cons {α : Type} {l : List α} {k : Nat} {x : α} (h : l[k]? = some x) : l.drop k = x :: l.drop (k + 1) := by
 obtain ⟨hk, rfl⟩ := List.getElem?_eq_some_iff.1 h
 exact List.drop_eq_getElem_cons hk
theorem apart_parts {L : List Lb} {k : Nat} {x : Lb} (h : L.Pairwise ApartB) (hx : L[k]? = some x) : (∀ z ∈ L.take k, ApartB x z) ∧ ∀ z ∈ L.drop (k + 1), ApartB x z := by
 rw [← List.take_append_drop k L, drop_cons hx] at h
 obtain ⟨_, h2, h3⟩ := List.pairwise_append.1 h
 exact ⟨fun z hz => (h3 z hz x (by simp)).symm, (List.pairwise_cons.1 h2).1⟩
end Plain
set_option maxHeartbeats 4000000 in
set_option maxRecDepth 100000 in
theorem eqBoxS_same (l : List Bx) (L1 L2 : List Lb) (v1 v2 : Value) (B1 B2 : Nat) (w : World) (hl : l.length ≤ 4194304) (hs : ∀ b ∈ l, b.mails.length ≤ 1048576 ∧ b.tombs.length ≤ 1048576) (e1 : L1.map (·.b) = l) (e2 : L2.map (·.b) = l) (h1 : OwnBs B1 w v1 L1) (h2 : OwnBs B2 w v2 L2) :
  Calls Try.prog 25 #[v1, v2] w fun e w' => e = .returned (.bool true) ∧ Below w.heap.size w w' := by
 obtain ⟨a1, c1, rfl⟩ := g_shape h1.row
 obtain ⟨a2, c2, rfl⟩ := g_shape h2.row
 obtain ⟨n, hn⟩ : ∃ n, n = l.length := ⟨_, rfl⟩
 have hn1 : L1.length = n := by rw [hn, ← e1, List.length_map]
 have hn2 : L2.length = n := by rw [hn, ← e2, List.length_map]
 have S1 := hide h1; have S2 := hide h2
 rw [hn1] at S1
 rw [hn2] at S2
 rw [hn1, hn2]
 rw [← hn] at hl
 have HS := hide hs; have E1 := hide e1; have E2 := hide e2; have HN := hide hn; have HN1 := hide hn1; clear h1 h2 hs e1 e2 hn hn1 hn2; have BB := hide (Below.refl w.heap.size w)
 go_enter Try.func25, Try.ntmps25
 go_wp2
 go_loopw [5] (fun i wr => ∃ k : Nat, k ≤ n ∧ i = .int .i64 k ∧ OwnBs B1 wr (.slice a1 n c1) L1 ∧ OwnBs B2 wr (.slice a2 n c2) L2 ∧ Below w.heap.size w wr) (fun i _ => n - (intOf i).toNat)
 case atStart => exact ⟨0, Nat.zero_le _, rfl, uh S1, uh S2, uh BB⟩
 clear S1 S2 BB
 case round =>
  obtain ⟨k, hk, rfl, o1, o2, hbel⟩ := hrel
  obtain ⟨wo, hwo⟩ : ∃ wo, wo = wr := ⟨_, rfl⟩
  subst hwo
  by_cases hlt : k < n
  ·have hkl : k < l.length := by rw [← uh HN]; exact hlt
   have hk1 : k < L1.length := by rw [uh HN1]; exact hlt
   have hk2 : k < L2.length := by have := congrArg List.length (uh E2); rw [List.length_map] at this; omega
   have hx1 : L1[k]? = some L1[k] := List.getElem?_eq_getElem hk1
   have hx2 : L2[k]? = some L2[k] := List.getElem?_eq_getElem hk2
   have hb12 : L1[k].b = L2[k].b := by
    have p1 : (L1.map (·.b))[k]? = (L2.map (·.b))[k]? := by rw [uh E1, uh E2]
    rw [List.getElem?_map, List.getElem?_map, hx1, hx2] at p1
    exact Option.some.inj p1
   have hsm := uh HS L1[k].b (by rw [← uh E1]; exact List.mem_map.2 ⟨_, List.getElem_mem hk1, rfl⟩)
   have hm1 := List.getElem_mem hk1; have hm2 := List.getElem_mem hk2
   obtain ⟨g1, q1, e3, _, _, _⟩ := br_read o1.row hx1
   obtain ⟨g2, q2, e4, _, _, _⟩ := br_read o2.row hx2
   have e5 := (Value.slice.inj e3).1; have e6 := (Value.slice.inj e4).1; clear e3 e4
   subst e5 e6
   generalize L1[k] = x at *
   generalize L2[k] = y at *
   obtain ⟨b, m1, t1⟩ := x
   obtain ⟨b2, m2, t2⟩ := y
   simp only at hb12 hsm
   subst hb12
   have S1 := hide o1; have S2 := hide o2; have BB := hide hbel; have X1 := hide hx1; have X2 := hide hx2; have M1 := hide hm1; have M2 := hide hm2; have HSM := hide hsm; clear o1 o2 hbel hx1 hx2 hm1 hm2 hsm hkl hk1 hk2
   obtain ⟨am1, cm1, ee1⟩ := g_shape ((uh S1).each _ (uh M1)).1
   obtain ⟨at1, ct1, ee3⟩ := g_shape ((uh S1).each _ (uh M1)).2
   obtain ⟨am2, cm2, ee2⟩ := g_shape ((uh S2).each _ (uh M2)).1
   obtain ⟨at2, ct2, ee4⟩ := g_shape ((uh S2).each _ (uh M2)).2
   simp only at ee1 ee2 ee3 ee4
   subst ee1 ee2 ee3 ee4
   have i1 : (0 : Int) ≤ (k : Int) := by omega
   have i2 : (k : Int) < (n : Int) := by omega
   obtain ⟨p0, p1, p2, p3, p4, p5, p6⟩ := br_of (uh S1).row (uh X1)
   obtain ⟨r0, r1, r2, r3, r4, r5, r6⟩ := br_of (uh S2).row (uh X2)
   simp only at p0 p1 p2 p3 p4 p5 p6 r0 r1 r2 r3 r4 r5 r6
   go_wp2
   clear p0 p1 p2 p3 p4 p5 p6 r0 r1 r2 r3 r4 r5 r6
   refine wp_region_held_drew (S := fun w' => w'.cell? ⟨g1, k * 7, none⟩ = some (.string b.name) ∧ w'.cell? ⟨g1, k * 7 + 1, none⟩ = some (.int .i64 b.valid) ∧ w'.cell? ⟨g1, k * 7 + 2, none⟩ = some (.int .i64 b.next) ∧ w'.cell? ⟨g1, k * 7 + 3, none⟩ = some (.int .i64 b.mod) ∧ w'.cell? ⟨g1, k * 7 + 4, none⟩ = some (.slice am1 b.mails.length cm1) ∧ w'.cell? ⟨g1, k * 7 + 5, none⟩ = some (.slice at1 b.tombs.length ct1) ∧ w'.cell? ⟨g1, k * 7 + 6, none⟩ = some (.int .i64 b.hor) ∧ w'.cell? ⟨g2, k * 7, none⟩ = some (.string b.name) ∧ w'.cell? ⟨g2, k * 7 + 1, none⟩ = some (.int .i64 b.valid) ∧ w'.cell? ⟨g2, k * 7 + 2, none⟩ = some (.int .i64 b.next) ∧ w'.cell? ⟨g2, k * 7 + 3, none⟩ = some (.int .i64 b.mod) ∧ w'.cell? ⟨g2, k * 7 + 4, none⟩ = some (.slice am2 b.mails.length cm2) ∧ w'.cell? ⟨g2, k * 7 + 5, none⟩ = some (.slice at2 b.tombs.length ct2) ∧ w'.cell? ⟨g2, k * 7 + 6, none⟩ = some (.int .i64 b.hor)) (by kernel_rfl) (⟨(br_of (uh S1).row (uh X1)).1, (br_of (uh S1).row (uh X1)).2.1, (br_of (uh S1).row (uh X1)).2.2.1, (br_of (uh S1).row (uh X1)).2.2.2.1, (br_of (uh S1).row (uh X1)).2.2.2.2.1, (br_of (uh S1).row (uh X1)).2.2.2.2.2.1, (br_of (uh S1).row (uh X1)).2.2.2.2.2.2, (br_of (uh S2).row (uh X2)).1, (br_of (uh S2).row (uh X2)).2.1, (br_of (uh S2).row (uh X2)).2.2.1, (br_of (uh S2).row (uh X2)).2.2.2.1, (br_of (uh S2).row (uh X2)).2.2.2.2.1, (br_of (uh S2).row (uh X2)).2.2.2.2.2.1, (br_of (uh S2).row (uh X2)).2.2.2.2.2.2⟩) (fun hHeld => ?_)
   replace S1 := hide ((uh S1).drew); replace S2 := hide ((uh S2).drew); replace BB := hide ((uh BB).drew)
   have sz1 : Hid (wo.heap.size ≤ wo.drew.heap.size) := Nat.le_refl _
   refine tv 0 17 ?_; refine tv 1 18 ?_; refine tv 2 19 ?_; refine tv 3 20 ?_; refine tv 4 21 ?_; refine tv 5 22 ?_; refine tv 6 23 ?_; refine tv 7 24 ?_
   refine wpAnyH_ready (rs := [8]) (by kernel_rfl) (by simp) ?_
   refine AllReadyH.cons rfl (fun K hK => ?_) AllReadyH.nil
   go_simp
   refine (eqBox_same b _ _ _ _ _ _ _ (uh HSM).1 (uh HSM).2 ((uh S1).each _ (uh M1)) ((uh S2).each _ (uh M2))).mono ?_
   rintro e wq1 ⟨rfl, hb⟩
   replace S1 := hide ((uh S1).up hb); replace S2 := hide ((uh S2).up hb); have sz2 := hide (hb.size); replace BB := hide (below_y (uh BB) hb); clear hb; go_wp2_with fail
   refine hK.out _ _ (⟨(br_of (uh S1).row (uh X1)).1, (br_of (uh S1).row (uh X1)).2.1, (br_of (uh S1).row (uh X1)).2.2.1, (br_of (uh S1).row (uh X1)).2.2.2.1, (br_of (uh S1).row (uh X1)).2.2.2.2.1, (br_of (uh S1).row (uh X1)).2.2.2.2.2.1, (br_of (uh S1).row (uh X1)).2.2.2.2.2.2, (br_of (uh S2).row (uh X2)).1, (br_of (uh S2).row (uh X2)).2.1, (br_of (uh S2).row (uh X2)).2.2.1, (br_of (uh S2).row (uh X2)).2.2.2.1, (br_of (uh S2).row (uh X2)).2.2.2.2.1, (br_of (uh S2).row (uh X2)).2.2.2.2.2.1, (br_of (uh S2).row (uh X2)).2.2.2.2.2.2⟩) (fun hHeld2 => ?_)
   clear hK K hHeld; have hHeld := hHeld2; clear hHeld2
   try simp only [Act.put, p1, p2, p3]
   refine tv 9 26 ?_
   refine wpAnyH_done (by kernel_rfl) ?_ _
   go_wp2
   go_roundw
   case rel => exact ⟨k + 1, by omega, by go_num, uh S1, uh S2, uh BB⟩
   case measure => simp [intOf]; omega
  ·obtain rfl : k = n := by omega
   have BB := hide hbel; clear o1 o2 hbel
   go_wp2
   go_ret
   exact ⟨rfl, uh BB⟩
set_option maxHeartbeats 4000000 in
set_option maxRecDepth 100000 in
theorem eqStore_same (s : Sx) (L1 L2 : List Lb) (v1 v2 : Value) (B1 B2 : Nat) (w : World) (hl : s.boxes.length ≤ 4194304) (hs : ∀ b ∈ s.boxes, b.mails.length ≤ 1048576 ∧ b.tombs.length ≤ 1048576) (e1 : L1.map (·.b) = s.boxes) (e2 : L2.map (·.b) = s.boxes) (h1 : OwnBs B1 w v1 L1) (h2 : OwnBs B2 w v2 L2) :
  Calls Try.prog 8 #[.agg #[v1, .int .i64 s.valid], .agg #[v2, .int .i64 s.valid]] w fun e w' => e = .returned (.bool true) ∧ Below w.heap.size w w' := by
 obtain ⟨a1, c1, rfl⟩ := g_shape h1.row
 obtain ⟨a2, c2, rfl⟩ := g_shape h2.row
 have S1 := hide h1; have S2 := hide h2; have HS := hide hs; clear h1 h2 hs; have BB := hide (Below.refl w.heap.size w)
 obtain ⟨wu1, hA⟩ : ∃ X, X = w.alloc (.cells ([.slice a1 L1.length c1, .int .i64 s.valid] : List Value).toArray 28) := ⟨_, rfl⟩
 have Ax : HasObj wu1 w.heap.size 28 [.slice a1 L1.length c1, .int .i64 s.valid] := by rw [hA]; exact HasObj.new _ _ _
 have hbn : Below w.heap.size w wu1 := by rw [hA]; exact (Below.refl _ _).alloc (Nat.le_refl _) _
 have loA : w.heap.size ≤ w.heap.size := (uh BB).size
 have EA := hA.symm; clear hA; replace S1 := hide ((uh S1).up hbn); replace S2 := hide ((uh S2).up hbn); have sz1 := hide (hbn.size); replace BB := hide (below_y (uh BB) hbn); clear hbn; have A := hide Ax; clear Ax
 obtain ⟨wu2, hC⟩ : ∃ X, X = wu1.alloc (.cells ([.slice a2 L2.length c2, .int .i64 s.valid] : List Value).toArray 28) := ⟨_, rfl⟩
 have Cx : HasObj wu2 wu1.heap.size 28 [.slice a2 L2.length c2, .int .i64 s.valid] := by rw [hC]; exact HasObj.new _ _ _
 have hbn : Below wu1.heap.size wu1 wu2 := by rw [hC]; exact (Below.refl _ _).alloc (Nat.le_refl _) _
 have neAC : w.heap.size ≠ wu1.heap.size := Nat.ne_of_lt (uh A).lt
 have loC : w.heap.size ≤ wu1.heap.size := (uh BB).size
 have EC := hC.symm; clear hC; replace A := hide ((uh A).ups hbn); replace S1 := hide ((uh S1).up hbn); replace S2 := hide ((uh S2).up hbn); have sz2 := hide (hbn.size); replace BB := hide (below_y (uh BB) hbn); clear hbn; have C := hide Cx; clear Cx; have Ac0_1 := (uh A).cell 0 rfl; have Ac1_1 := (uh A).cell 1 rfl; have Cc0_2 := (uh C).cell 0 rfl; have Cc1_2 := (uh C).cell 1 rfl
 go_enter Try.func8, Try.ntmps8
 go_wp2_with fail; clear Ac0_1 Ac1_1 Cc0_2 Cc1_2 EA EC
 refine (eqBoxS_same s.boxes L1 L2 _ _ _ _ _ hl (uh HS) e1 e2 (uh S1) (uh S2)).mono ?_
 rintro e wu3 ⟨rfl, hb⟩
 replace A := hide ((uh A).ups hb); replace C := hide ((uh C).ups hb); replace S1 := hide ((uh S1).up hb); replace S2 := hide ((uh S2).up hb); have sz3 := hide (hb.size); replace BB := hide (below_y (uh BB) hb); clear hb; have Ac0_3 := (uh A).cell 0 rfl; have Ac1_3 := (uh A).cell 1 rfl; have Cc0_4 := (uh C).cell 0 rfl; have Cc1_4 := (uh C).cell 1 rfl
 go_wp2
 go_ret
 exact ⟨rfl, uh BB⟩
theorem rowC_alike {x y : Lb} (e : lbC x = lbC y) (l : List Lb) (k : Nat) : rowC lbC (l.set k x) = rowC lbC (l.set k y) := by
 unfold rowC
 rw [List.flatMap_def, List.flatMap_def, List.map_set, List.map_set, e]
set_option maxHeartbeats 8000000 in
set_option maxRecDepth 100000 in
theorem markBoxS_any (L : List Lb) (v : Value) (B k0 : Nat) (w : World) (hl : sizeBs (L.map (·.b)) ≤ 4194304) (hs : ∀ x ∈ L, x.b.mails.length ≤ 1048576 ∧ x.b.tombs.length ≤ 1048576) (hk0 : 1 ≤ k0) (hk1 : k0 ≤ 10000000) (hap : L.Pairwise ApartB) (h : OwnBs B w v L) :
  Calls Try.prog 26 #[v, .int .i64 (k0 : Int)] w fun e w' => e = .returned (.int .i64 ((k0 + sumB L : Nat) : Int)) ∧ OwnBs B w' v (markBs k0 L) ∧ GrownBut w w' (BlkBs v L) := by
 obtain ⟨n, hn⟩ : ∃ n, n = L.length := ⟨_, rfl⟩
 have hnl : n ≤ 4194304 := by have := sizeBs_len (L.map (·.b)); rw [List.length_map] at this; omega
 rcases h.row.2 with ⟨rfl, hz⟩ | ⟨g, cap, cur, rfl, hbg, hh, hrest⟩
 ·have hL : L = [] := List.eq_nil_of_length_eq_zero hz
  subst hL
  go_enter Try.func26, Try.ntmps26
  go_wp2
  refine wp_loop_rounds 1 ?_
  rw [rounds_succ]
  go_wp2
  go_ret
  exact ⟨by simp [sumB], h, gb_self _ _⟩
 ·clear hh hrest
  rw [← hn] at h ⊢
  have HN := hide hn; have H0 := hide h; have HS := hide hs; have HAP := hide hap
  have HSUM : Hid (∀ k, sumB (L.take k) ≤ 20971520) := fun k => by
   have h1 : sumB (L.take k) ≤ sumB L := by
    have := congrArg sumB (List.take_append_drop k L)
    simp only [sumB, List.map_append, List.sum_append] at this ⊢
    omega
   have h2 := sumB_le L
   omega
  have GG : Hid (BlkBs (.slice (some ⟨g, 0, none⟩) n cap) L g) := .inl rfl
  clear h hn hs hap hl
  go_enter Try.func26, Try.ntmps26
  go_wp2
  go_loopw [1, 5] (fun m i wr => ∃ (k K : Nat), k ≤ n ∧ K = k0 + sumB (L.take k) ∧ i = .int .i64 k ∧ m = .int .i64 (K : Int) ∧ OwnBs B wr (.slice (some ⟨g, 0, none⟩) n cap) (markBs k0 (L.take k) ++ L.drop k) ∧ GrownBut w wr (BlkBs (.slice (some ⟨g, 0, none⟩) n cap) L)) (fun _ i _ => n - (intOf i).toNat)
  case atStart => exact ⟨0, k0, Nat.zero_le _, by simp [sumB], rfl, rfl, by simpa [markBs] using uh H0, gb_self _ _⟩
  case round =>
   obtain ⟨k, K, hk, hK, rfl, rfl, hown, hgb⟩ := hrel
   by_cases hlt : k < n
   ·have hkl : k < L.length := by rw [← uh HN]; exact hlt
    have hgk : L[k]? = some L[k] := List.getElem?_eq_getElem hkl
    have hAP := apart_parts (uh HAP) hgk
    have hKb : K ≤ 40000000 := by have := uh HSUM k; omega
    have hK0 : 1 ≤ K := by omega
    have hxs := uh HS _ (List.getElem_mem hkl)
    have hBL : ∀ q, (L[k].m.ownBlock = some q ∨ L[k].t.ownBlock = some q) → BlkBs (.slice (some ⟨g, 0, none⟩) n cap) L q := fun q hq => .inr ⟨_, List.getElem_mem hkl, hq⟩
    have LEN : (markBs k0 (L.take k)).length = k := by rw [markBs_len, List.length_take]; omega
    have hget : (markBs k0 (L.take k) ++ L.drop k)[k]? = some L[k] := by rw [List.getElem?_append_right (by omega), LEN, Nat.sub_self, drop_cons hgk]; rfl
    have TK := hide (take_snoc hgk); have DK := hide (drop_cons hgk)
    have hN2 : (markBs k0 (L.take k) ++ L.drop k).length = n := by rw [List.length_append, LEN, List.length_drop, ← uh HN]; omega
    have XIN := hown.each L[k] (List.mem_append_right _ (by rw [drop_cons hgk]; exact List.mem_cons_self))
    have OIN : EachB B wr (markBs k0 (L.take k) ++ L.drop (k + 1)) := hown.each.sub (fun z hz => by
     rw [drop_cons hgk]
     rcases List.mem_append.1 hz with hz | hz
     ·exact List.mem_append_left _ hz
     ·exact List.mem_append_right _ (List.mem_cons_of_mem _ hz))
    have APM : ∀ z ∈ markBs k0 (L.take k) ++ L.drop (k + 1), (∀ q, L[k].m.ownBlock = some q → z.m.ownBlock ≠ some q) ∧ ∀ q, L[k].t.ownBlock = some q → z.t.ownBlock ≠ some q := by
     intro z hz
     rcases List.mem_append.1 hz with hz | hz
     ·obtain ⟨y, hy, e1, e2⟩ := markBs_mem _ _ z hz
      rw [e1, e2]
      exact hAP.1 y hy
     ·exact hAP.2 z hz
    generalize L[k] = x at *
    obtain ⟨f, vm, vt⟩ := x
    simp only at hxs hBL XIN APM hget
    obtain ⟨am, cm, rfl⟩ := g_shape XIN.1
    obtain ⟨at1, ct1, rfl⟩ := g_shape XIN.2
    have ROW : Hid (wr.ownsRow B 42 7 (.slice (some ⟨g, 0, none⟩) n cap) n (rowC lbC (markBs k0 (L.take k) ++ L.drop k))) := by have h9 := hown.row; unfold OwnBr at h9; rw [hN2] at h9; exact h9
    obtain ⟨LK, hLK⟩ : ∃ LK, LK = markBs k0 (L.take k) ++ L.drop k := ⟨_, rfl⟩
    obtain ⟨LO, hLO⟩ : ∃ LO, LO = markBs k0 (L.take k) ++ L.drop (k + 1) := ⟨_, rfl⟩
    rw [← hLK] at ROW hget
    rw [← hLO] at OIN APM
    have HLK := hide hLK; have HLO := hide hLO; have HG := hide hget; have EO := hide OIN; have XM := hide XIN.1; have XT := hide XIN.2; have AP := hide APM; have BL := hide hBL; have GB := hide hgb; have HK := hide hK; have HLEN := hide LEN; have GGK := hide hgk; clear hown hgb hK hgk hAP hget hN2 XIN OIN APM hBL hLK hLO hkl LEN
    have N4 : ((K + 4 : Nat) : Int) = (K : Int) + 1 + 1 + 1 + 1 := by omega
    have MM := hide (fun (W : World) h => markMailS_any f.mails (.slice am f.mails.length cm) B (K + 4) W hxs.1 (by omega) (by omega) h)
    obtain ⟨K2, hK2⟩ : ∃ K2, K2 = K + 4 + f.mails.length * 4 := ⟨_, rfl⟩
    have MT := hide (fun (W : World) h => markTombS_any f.tombs (.slice at1 f.tombs.length ct1) B K2 W hxs.2 (by omega) (by omega) h)
    obtain ⟨K3, hK3⟩ : ∃ K3, K3 = K2 + f.tombs.length * 2 := ⟨_, rfl⟩
    rw [N4, ← hK2] at MM
    rw [← hK3] at MT
    have HK2 := hide hK2; have HK3 := hide hK3
    have b2 : K2 ≤ 60000000 := by omega
    have b3 : K3 ≤ 80000000 := by omega
    have TX := hide (fun W => markText_any K W hK0 (by omega))
    have i1 : (0 : Int) ≤ (k : Int) := by omega
    have i2 : (k : Int) < (n : Int) := by omega
    clear hK2 hK3 N4; go_wp2_with fail
    refine (uh TX _).mono ?_
    rintro e wm1 ⟨rfl, hb⟩
    replace ROW := hide (g_stays (uh ROW) hb); replace EO := hide ((uh EO).up hb); replace XM := hide ((uh XM).up hb); replace XT := hide ((uh XT).up hb); replace GB := hide (gb_below (uh GB) hb); clear hb
    obtain ⟨y1, d1⟩ := g_some (uh ROW) (j := k * 7) (by omega)
    have f1 := World.ownsRow.frozenAt (uh ROW) (k * 7)
    have st1 := (uh ROW).stored (k * 7) (.string ⟨(mkL K).toArray⟩)
    rw [show k * 7 = k * 7 + 0 from rfl, rowC_set lbC_len (uh HG) (j := 0) (by decide) (⟨⟨⟨(mkL K).toArray⟩, f.valid, f.next, f.mod, f.mails, f.tombs, f.hor⟩, .slice am f.mails.length cm, .slice at1 f.tombs.length ct1⟩ : Lb) (.string ⟨(mkL K).toArray⟩) rfl] at st1
    have EO_ := hide ((uh EO).cell (j := k * 7) (uh ROW) (.string ⟨(mkL K).toArray⟩))
    have XM_ : Hid (OwnMl B _ _ _) := g_aside (uh XM) (g_store (j := k * 7) (g_self wm1 (some g)) (.string ⟨(mkL K).toArray⟩)) (fun q hq => rows_apart (uh ROW) (uh XM) (by decide) q hq)
    have XT_ : Hid (OwnTb B _ _ _) := g_aside (uh XT) (g_store (j := k * 7) (g_self wm1 (some g)) (.string ⟨(mkL K).toArray⟩)) (fun q hq => rows_apart (uh ROW) (uh XT) (by decide) q hq)
    have GB_ := hide (gb_grown (uh GB) (g_store (j := k * 7) (g_self wm1 (some g)) (.string ⟨(mkL K).toArray⟩)) (fun q hq => by cases hq; exact uh GG))
    have RO_ := hide st1.1; clear st1 ROW EO XM XT GB
    obtain ⟨wm2, hst⟩ : ∃ X, X = wm1.setCell ⟨g, k * 7, none⟩ (.string ⟨(mkL K).toArray⟩) := ⟨_, rfl⟩
    try simp only [Nat.add_zero] at RO_ EO_ XM_ XT_ GB_
    rw [← hst] at RO_
    have ROW := RO_; clear RO_
    rw [← hst] at EO_
    have EO := EO_; clear EO_
    rw [← hst] at XM_
    have XM := XM_; clear XM_
    rw [← hst] at XT_
    have XT := XT_; clear XT_
    rw [← hst] at GB_
    have GB := GB_; clear GB_; have Est1 := hst.symm; clear hst
    obtain ⟨y2, d2⟩ := g_some (uh ROW) (j := k * 7 + 1) (by omega)
    have f2 := World.ownsRow.frozenAt (uh ROW) (k * 7 + 1); have st2 := (uh ROW).stored (k * 7 + 1) (.int .i64 ((K : Int) + 1))
    rw [rowC_set2 lbC_len (uh HG) (⟨⟨⟨(mkL K).toArray⟩, f.valid, f.next, f.mod, f.mails, f.tombs, f.hor⟩, .slice am f.mails.length cm, .slice at1 f.tombs.length ct1⟩ : Lb) (j := 1) (by decide) (⟨⟨⟨(mkL K).toArray⟩, (K : Int) + 1, f.next, f.mod, f.mails, f.tombs, f.hor⟩, .slice am f.mails.length cm, .slice at1 f.tombs.length ct1⟩ : Lb) (.int .i64 ((K : Int) + 1)) rfl] at st2
    have EO_ := hide ((uh EO).cell (j := k * 7 + 1) (uh ROW) (.int .i64 ((K : Int) + 1)))
    have XM_ : Hid (OwnMl B _ _ _) := g_aside (uh XM) (g_store (j := k * 7 + 1) (g_self wm2 (some g)) (.int .i64 ((K : Int) + 1))) (fun q hq => rows_apart (uh ROW) (uh XM) (by decide) q hq)
    have XT_ : Hid (OwnTb B _ _ _) := g_aside (uh XT) (g_store (j := k * 7 + 1) (g_self wm2 (some g)) (.int .i64 ((K : Int) + 1))) (fun q hq => rows_apart (uh ROW) (uh XT) (by decide) q hq)
    have GB_ := hide (gb_grown (uh GB) (g_store (j := k * 7 + 1) (g_self wm2 (some g)) (.int .i64 ((K : Int) + 1))) (fun q hq => by cases hq; exact uh GG))
    have RO_ := hide st2.1; clear st2 ROW EO XM XT GB
    obtain ⟨wm3, hst⟩ : ∃ X, X = wm2.setCell ⟨g, k * 7 + 1, none⟩ (.int .i64 ((K : Int) + 1)) := ⟨_, rfl⟩
    rw [← hst] at RO_
    have ROW := RO_; clear RO_
    rw [← hst] at EO_
    have EO := EO_; clear EO_
    rw [← hst] at XM_
    have XM := XM_; clear XM_
    rw [← hst] at XT_
    have XT := XT_; clear XT_
    rw [← hst] at GB_
    have GB := GB_; clear GB_; have Est2 := hst.symm; clear hst
    obtain ⟨y3, d3⟩ := g_some (uh ROW) (j := k * 7 + 2) (by omega)
    have f3 := World.ownsRow.frozenAt (uh ROW) (k * 7 + 2); have st3 := (uh ROW).stored (k * 7 + 2) (.int .i64 ((K : Int) + 1 + 1))
    rw [rowC_set2 lbC_len (uh HG) (⟨⟨⟨(mkL K).toArray⟩, (K : Int) + 1, f.next, f.mod, f.mails, f.tombs, f.hor⟩, .slice am f.mails.length cm, .slice at1 f.tombs.length ct1⟩ : Lb) (j := 2) (by decide) (⟨⟨⟨(mkL K).toArray⟩, (K : Int) + 1, (K : Int) + 1 + 1, f.mod, f.mails, f.tombs, f.hor⟩, .slice am f.mails.length cm, .slice at1 f.tombs.length ct1⟩ : Lb) (.int .i64 ((K : Int) + 1 + 1)) rfl] at st3
    have EO_ := hide ((uh EO).cell (j := k * 7 + 2) (uh ROW) (.int .i64 ((K : Int) + 1 + 1)))
    have XM_ : Hid (OwnMl B _ _ _) := g_aside (uh XM) (g_store (j := k * 7 + 2) (g_self wm3 (some g)) (.int .i64 ((K : Int) + 1 + 1))) (fun q hq => rows_apart (uh ROW) (uh XM) (by decide) q hq)
    have XT_ : Hid (OwnTb B _ _ _) := g_aside (uh XT) (g_store (j := k * 7 + 2) (g_self wm3 (some g)) (.int .i64 ((K : Int) + 1 + 1))) (fun q hq => rows_apart (uh ROW) (uh XT) (by decide) q hq)
    have GB_ := hide (gb_grown (uh GB) (g_store (j := k * 7 + 2) (g_self wm3 (some g)) (.int .i64 ((K : Int) + 1 + 1))) (fun q hq => by cases hq; exact uh GG))
    have RO_ := hide st3.1; clear st3 ROW EO XM XT GB
    obtain ⟨wm4, hst⟩ : ∃ X, X = wm3.setCell ⟨g, k * 7 + 2, none⟩ (.int .i64 ((K : Int) + 1 + 1)) := ⟨_, rfl⟩
    rw [← hst] at RO_
    have ROW := RO_; clear RO_
    rw [← hst] at EO_
    have EO := EO_; clear EO_
    rw [← hst] at XM_
    have XM := XM_; clear XM_
    rw [← hst] at XT_
    have XT := XT_; clear XT_
    rw [← hst] at GB_
    have GB := GB_; clear GB_; have Est3 := hst.symm; clear hst
    obtain ⟨y4, d4⟩ := g_some (uh ROW) (j := k * 7 + 3) (by omega)
    have f4 := World.ownsRow.frozenAt (uh ROW) (k * 7 + 3); have st4 := (uh ROW).stored (k * 7 + 3) (.int .i64 ((K : Int) + 1 + 1 + 1))
    rw [rowC_set2 lbC_len (uh HG) (⟨⟨⟨(mkL K).toArray⟩, (K : Int) + 1, (K : Int) + 1 + 1, f.mod, f.mails, f.tombs, f.hor⟩, .slice am f.mails.length cm, .slice at1 f.tombs.length ct1⟩ : Lb) (j := 3) (by decide) (⟨⟨⟨(mkL K).toArray⟩, (K : Int) + 1, (K : Int) + 1 + 1, (K : Int) + 1 + 1 + 1, f.mails, f.tombs, f.hor⟩, .slice am f.mails.length cm, .slice at1 f.tombs.length ct1⟩ : Lb) (.int .i64 ((K : Int) + 1 + 1 + 1)) rfl] at st4
    have EO_ := hide ((uh EO).cell (j := k * 7 + 3) (uh ROW) (.int .i64 ((K : Int) + 1 + 1 + 1)))
    have XM_ : Hid (OwnMl B _ _ _) := g_aside (uh XM) (g_store (j := k * 7 + 3) (g_self wm4 (some g)) (.int .i64 ((K : Int) + 1 + 1 + 1))) (fun q hq => rows_apart (uh ROW) (uh XM) (by decide) q hq)
    have XT_ : Hid (OwnTb B _ _ _) := g_aside (uh XT) (g_store (j := k * 7 + 3) (g_self wm4 (some g)) (.int .i64 ((K : Int) + 1 + 1 + 1))) (fun q hq => rows_apart (uh ROW) (uh XT) (by decide) q hq)
    have GB_ := hide (gb_grown (uh GB) (g_store (j := k * 7 + 3) (g_self wm4 (some g)) (.int .i64 ((K : Int) + 1 + 1 + 1))) (fun q hq => by cases hq; exact uh GG))
    have RO_ := hide st4.1; clear st4 ROW EO XM XT GB
    obtain ⟨wm5, hst⟩ : ∃ X, X = wm4.setCell ⟨g, k * 7 + 3, none⟩ (.int .i64 ((K : Int) + 1 + 1 + 1)) := ⟨_, rfl⟩
    rw [← hst] at RO_
    have ROW := RO_; clear RO_
    rw [← hst] at EO_
    have EO := EO_; clear EO_
    rw [← hst] at XM_
    have XM := XM_; clear XM_
    rw [← hst] at XT_
    have XT := XT_; clear XT_
    rw [← hst] at GB_
    have GB := GB_; clear GB_; have Est4 := hst.symm; clear hst
    have c4 := (br_cells (uh ROW) (k := k) (x := (⟨⟨⟨(mkL K).toArray⟩, (K : Int) + 1, (K : Int) + 1 + 1, (K : Int) + 1 + 1 + 1, f.mails, f.tombs, f.hor⟩, .slice am f.mails.length cm, .slice at1 f.tombs.length ct1⟩ : Lb)) (List.getElem?_set_self (List.getElem?_eq_some_iff.1 (uh HG)).1) hlt).2.2.2.2.1
    go_wp2_with fail; clear c4 Est1 d1 f1 Est2 d2 f2 Est3 d3 f3 Est4 d4 f4
    refine (uh MM _ (uh XM)).mono ?_
    rintro e wm6 ⟨rfl, om, hg⟩
    have RO_ := hide (g_aside (uh ROW) hg (fun q hq => rows_apart (uh XM) (uh ROW) (by decide) q hq))
    have EO_ := hide ((uh EO).markM (uh XM) hg (fun z hz q hq => (uh AP z hz).1 q hq))
    have OT_ := hide (g_aside (uh XT) hg (fun q hq => rows_apart (uh XM) (uh XT) (by decide) q hq))
    have GB_ := hide (gb_grown (uh GB) hg (fun q hq => uh BL q (.inl hq)))
    clear ROW EO XM XT GB; have ROW := RO_; have EO := EO_
    have XT : Hid (OwnTb B wm6 _ _) := OT_
    have GB := GB_; have XM := hide om; clear RO_ EO_ OT_ GB_ om hg
    have c5 := (br_cells (uh ROW) (k := k) (x := (⟨⟨⟨(mkL K).toArray⟩, (K : Int) + 1, (K : Int) + 1 + 1, (K : Int) + 1 + 1 + 1, f.mails, f.tombs, f.hor⟩, .slice am f.mails.length cm, .slice at1 f.tombs.length ct1⟩ : Lb)) (List.getElem?_set_self (List.getElem?_eq_some_iff.1 (uh HG)).1) hlt).2.2.2.2.2.1
    go_wp2_with fail; clear c5
    refine (uh MT _ (uh XT)).mono ?_
    rintro e wm7 ⟨rfl, om, hg⟩
    have RO_ := hide (g_aside (uh ROW) hg (fun q hq => rows_apart (uh XT) (uh ROW) (by decide) q hq))
    have EO_ := hide ((uh EO).markT (uh XT) hg (fun z hz q hq => (uh AP z hz).2 q hq))
    have OT_ := hide (g_aside (uh XM) hg (fun q hq => rows_apart (uh XT) (uh XM) (by decide) q hq))
    have GB_ := hide (gb_grown (uh GB) hg (fun q hq => uh BL q (.inr hq)))
    clear ROW EO XM XT GB; have ROW := RO_; have EO := EO_
    have XM : Hid (OwnMl B wm7 _ _) := OT_
    have GB := GB_; have XT := hide om; clear RO_ EO_ OT_ GB_ om hg
    have hz9 : (K3 : Int) = ((K + 4 + f.mails.length * 4 + f.tombs.length * 2 : Nat) : Int) := by rw [uh HK3, uh HK2]
    have HZ9 := hide hz9; clear hz9
    obtain ⟨y5, d5⟩ := g_some (uh ROW) (j := k * 7 + 6) (by omega)
    have f5 := World.ownsRow.frozenAt (uh ROW) (k * 7 + 6); have st5 := (uh ROW).stored (k * 7 + 6) (.int .i64 (K3 : Int))
    rw [rowC_set2 lbC_len (uh HG) (⟨⟨⟨(mkL K).toArray⟩, (K : Int) + 1, (K : Int) + 1 + 1, (K : Int) + 1 + 1 + 1, f.mails, f.tombs, f.hor⟩, .slice am f.mails.length cm, .slice at1 f.tombs.length ct1⟩ : Lb) (j := 6) (by decide) (⟨⟨⟨(mkL K).toArray⟩, (K : Int) + 1, (K : Int) + 1 + 1, (K : Int) + 1 + 1 + 1, f.mails, f.tombs, (K3 : Int)⟩, .slice am f.mails.length cm, .slice at1 f.tombs.length ct1⟩ : Lb) (.int .i64 (K3 : Int)) rfl] at st5
    have EO_ := hide ((uh EO).cell (j := k * 7 + 6) (uh ROW) (.int .i64 (K3 : Int)))
    have XM_ : Hid (OwnMl B _ _ _) := g_aside (uh XM) (g_store (j := k * 7 + 6) (g_self wm7 (some g)) (.int .i64 (K3 : Int))) (fun q hq => rows_apart (uh ROW) (uh XM) (by decide) q hq)
    have XT_ : Hid (OwnTb B _ _ _) := g_aside (uh XT) (g_store (j := k * 7 + 6) (g_self wm7 (some g)) (.int .i64 (K3 : Int))) (fun q hq => rows_apart (uh ROW) (uh XT) (by decide) q hq)
    have GB_ := hide (gb_grown (uh GB) (g_store (j := k * 7 + 6) (g_self wm7 (some g)) (.int .i64 (K3 : Int))) (fun q hq => by cases hq; exact uh GG))
    have RO_ := hide st5.1; clear st5 ROW EO XM XT GB
    obtain ⟨wm8, hst⟩ : ∃ X, X = wm7.setCell ⟨g, k * 7 + 6, none⟩ (.int .i64 (K3 : Int)) := ⟨_, rfl⟩
    rw [← hst] at RO_
    have ROW := RO_; clear RO_
    rw [← hst] at EO_
    have EO := EO_; clear EO_
    rw [← hst] at XM_
    have XM := XM_; clear XM_
    rw [← hst] at XT_
    have XT := XT_; clear XT_
    rw [← hst] at GB_
    have GB := GB_; clear GB_; have Est5 := hst.symm; clear hst
    go_wp2
    go_roundw
    case rel =>
     refine ⟨k + 1, K3 + 1, by omega, ?_, by go_num, by go_num, ⟨?_, ?_⟩, uh GB⟩
     ·rw [uh TK, sumB_snoc, uh HK3, uh HK2, uh HK]; simp only [stepB]; omega
     ·have hL9 : LK.set k (markLb K ⟨f, .slice am f.mails.length cm, .slice at1 f.tombs.length ct1⟩) = markBs k0 (L.take (k + 1)) ++ L.drop (k + 1) := by
       rw [uh HLK, uh TK, markBs_snoc, ← uh HK, uh DK, List.set_append_right _ _ (by rw [uh HLEN]; exact Nat.le_refl _), uh HLEN, Nat.sub_self, List.set_cons_zero, List.append_assoc]
       rfl
      have hR := uh ROW
      have hl9 : (markBs k0 (L.take (k + 1)) ++ L.drop (k + 1)).length = n := by rw [← hL9, List.length_set, uh HLK, List.length_append, uh HLEN, List.length_drop, ← uh HN]; omega
      unfold OwnBr
      rw [hl9, ← hL9]
      rw [show rowC lbC (LK.set k (markLb K ⟨f, .slice am f.mails.length cm, .slice at1 f.tombs.length ct1⟩)) = rowC lbC (LK.set k (⟨⟨⟨(mkL K).toArray⟩, (K : Int) + 1, (K : Int) + 1 + 1, (K : Int) + 1 + 1 + 1, f.mails, f.tombs, (K3 : Int)⟩, .slice am f.mails.length cm, .slice at1 f.tombs.length ct1⟩ : Lb)) from by
       have e9 : lbC (markLb K ⟨f, .slice am f.mails.length cm, .slice at1 f.tombs.length ct1⟩) = lbC (⟨⟨⟨(mkL K).toArray⟩, (K : Int) + 1, (K : Int) + 1 + 1, (K : Int) + 1 + 1 + 1, f.mails, f.tombs, (K3 : Int)⟩, .slice am f.mails.length cm, .slice at1 f.tombs.length ct1⟩ : Lb) := by unfold markLb lbC; simp only; rw [uh HZ9]
       exact rowC_alike e9 LK k]
      exact hR
     ·intro z hz
      rw [uh TK, markBs_snoc, List.append_assoc] at hz
      rcases List.mem_append.1 hz with hz | hz
      ·exact uh EO z (by rw [uh HLO]; exact List.mem_append_left _ hz)
      ·rcases List.mem_append.1 hz with hz | hz
       ·rw [← uh HK] at hz; simp only [List.mem_singleton] at hz; subst hz; exact ⟨uh XM, by have h9 := uh XT; rw [uh HK2] at h9; exact h9⟩
       ·exact uh EO z (by rw [uh HLO]; exact List.mem_append_right _ hz)
    case measure => simp [intOf]; omega
   ·have e : k = n := by omega
    subst e
    rw [List.take_of_length_le (by have := uh HN; omega), List.drop_of_length_le (by have := uh HN; omega), List.append_nil] at hown
    rw [List.take_of_length_le (by have := uh HN; omega)] at hK
    have OZ := hide hown; have GZ := hide hgb; have HK := hide hK; clear hown hgb hK
    go_wp2
    go_ret
    exact ⟨by rw [uh HK]; rfl, uh OZ, uh GZ⟩
set_option maxHeartbeats 4000000 in
set_option maxRecDepth 100000 in
theorem markStore_any (L : List Lb) (v : Value) (n : Int) (B k0 : Nat) (w : World) (hl : sizeBs (L.map (·.b)) ≤ 4194304) (hs : ∀ x ∈ L, x.b.mails.length ≤ 1048576 ∧ x.b.tombs.length ≤ 1048576) (hk0 : 1 ≤ k0) (hk1 : k0 ≤ 10000000) (hap : L.Pairwise ApartB) (h : OwnBs B w v L) :
  Calls Try.prog 9 #[.agg #[v, .int .i64 n], .int .i64 (k0 : Int)] w fun e w' => e = .returned (.int .i64 ((k0 + sumB L : Nat) : Int)) ∧ OwnBs B w' v (markBs k0 L) ∧ GrownBut w w' (BlkBs v L) := by
 obtain ⟨a1, c1, rfl⟩ := g_shape h.row
 have S1 := hide h; clear h; have BB := hide (Below.refl w.heap.size w)
 obtain ⟨wv1, hA⟩ : ∃ X, X = w.alloc (.cells ([.slice a1 L.length c1, .int .i64 n] : List Value).toArray 28) := ⟨_, rfl⟩
 have Ax : HasObj wv1 w.heap.size 28 [.slice a1 L.length c1, .int .i64 n] := by rw [hA]; exact HasObj.new _ _ _
 have hbn : Below w.heap.size w wv1 := by rw [hA]; exact (Below.refl _ _).alloc (Nat.le_refl _) _
 have loA : w.heap.size ≤ w.heap.size := (uh BB).size
 have EA := hA.symm; clear hA; replace S1 := hide ((uh S1).up hbn); have sz1 := hide (hbn.size); replace BB := hide (below_y (uh BB) hbn); clear hbn; have A := hide Ax; clear Ax; have Ac0_1 := (uh A).cell 0 rfl; have Ac1_1 := (uh A).cell 1 rfl
 go_enter Try.func9, Try.ntmps9
 have HM := hide (fun (W : World) h => markBoxS_any L (.slice a1 L.length c1) B k0 W hl hs hk0 hk1 hap h)
 obtain ⟨K, hK⟩ : ∃ K, K = k0 + sumB L := ⟨_, rfl⟩
 rw [← hK] at HM ⊢
 clear hK hl hs hap; go_wp2_with fail; clear Ac0_1 Ac1_1 EA
 refine (uh HM _ (uh S1)).mono ?_
 rintro e w5 ⟨rfl, o1, hg⟩
 have O1 := hide o1
 have GR : Hid (GrownBut w w5 (BlkBs (.slice a1 L.length c1) L)) := ((GrownBut.below (uh BB) rfl).then hg).mono (fun k _ hk => hk.elim False.elim id)
 clear o1 hg S1 BB A
 go_wp2
 go_ret
 exact ⟨rfl, uh O1, uh GR⟩
set_option maxHeartbeats 8000000 in
set_option maxRecDepth 100000 in
theorem heldBoxS_any (L : List Lb) (v : Value) (B k0 : Nat) (w : World) (hl : sizeBs (L.map (·.b)) ≤ 4194304) (hs : ∀ x ∈ L, x.b.mails.length ≤ 1048576 ∧ x.b.tombs.length ≤ 1048576) (hk0 : 1 ≤ k0) (hk1 : k0 ≤ 10000000) (h : OwnBs B w v (markBs k0 L)) :
  Calls Try.prog 27 #[v, .int .i64 (k0 : Int)] w fun e w' => e = .returned (.int .i64 ((k0 + sumB L : Nat) : Int)) ∧ Below w.heap.size w w' := by
 obtain ⟨n, hn⟩ : ∃ n, n = L.length := ⟨_, rfl⟩
 have hnl : n ≤ 4194304 := by have := sizeBs_len (L.map (·.b)); rw [List.length_map] at this; omega
 have hsh := g_shape h.row
 rw [markBs_len, ← hn] at hsh
 obtain ⟨a1, c1, rfl⟩ := hsh
 have HN := hide hn; have HS := hide hs; have S1 := hide h
 have HSUM : Hid (∀ k, sumB (L.take k) ≤ 20971520) := fun k => by
  have h1 : sumB (L.take k) ≤ sumB L := by
   have := congrArg sumB (List.take_append_drop k L)
   simp only [sumB, List.map_append, List.sum_append] at this ⊢
   omega
  have h2 := sumB_le L
  omega
 clear h hn hs hl
 go_enter Try.func27, Try.ntmps27
 go_wp2
 go_loopw [1, 5] (fun m i wr => ∃ (k K : Nat), k ≤ n ∧ K = k0 + sumB (L.take k) ∧ i = .int .i64 k ∧ m = .int .i64 (K : Int) ∧ OwnBs B wr (.slice a1 n c1) (markBs k0 L) ∧ Below w.heap.size w wr) (fun _ i _ => n - (intOf i).toNat)
 case atStart => exact ⟨0, k0, Nat.zero_le _, by simp [sumB], rfl, rfl, uh S1, Below.refl _ _⟩
 case round =>
  clear S1
  obtain ⟨k, K, hk, hK, rfl, rfl, hown, hbel⟩ := hrel
  by_cases hlt : k < n
  ·have hkl : k < L.length := by rw [← uh HN]; exact hlt
   have hgk : L[k]? = some L[k] := List.getElem?_eq_getElem hkl
   have hget := markBs_get L k0 k _ hgk
   rw [← hK] at hget
   have hKb : K ≤ 40000000 := by have := uh HSUM k; omega
   have hK0 : 1 ≤ K := by omega
   have hxs := uh HS _ (List.getElem_mem hkl); have hmem := List.mem_of_getElem? hget; have TK := hide (take_snoc hgk)
   obtain ⟨g, q9, e9, _, _, _⟩ := br_read hown.row hget
   have e8 := (Value.slice.inj e9).1; clear e9
   subst e8
   generalize L[k] = x at *
   obtain ⟨f, vm, vt⟩ := x
   simp only at hxs
   have S1 := hide hown; have BB := hide hbel; have HK := hide hK; have HG := hide hget; have HM := hide hmem; clear hown hbel hK hget hmem hgk hkl
   have XM := fun (W : World) (h : OwnBs B W (.slice (some ⟨g, 0, none⟩) n c1) (markBs k0 L)) => (h.each _ (uh HM)).1
   have XT := fun (W : World) (h : OwnBs B W (.slice (some ⟨g, 0, none⟩) n c1) (markBs k0 L)) => (h.each _ (uh HM)).2
   simp only [markLb] at XM XT
   obtain ⟨am, cm, rfl⟩ : ∃ a c, vm = .slice a f.mails.length c := by have := g_shape (XM _ (uh S1)); rw [marksK_len] at this; exact this
   obtain ⟨at1, ct1, rfl⟩ : ∃ a c, vt = .slice a f.tombs.length c := by have := g_shape (XT _ (uh S1)); rw [marksK_len] at this; exact this
   have N4 : ((K + 4 : Nat) : Int) = (K : Int) + 1 + 1 + 1 + 1 := by omega
   have MM := hide (fun (W : World) h => heldMailS_any f.mails.length (.slice am f.mails.length cm) B (K + 4) W hxs.1 (by omega) (by omega) (XM W h))
   obtain ⟨K2, hK2⟩ : ∃ K2, K2 = K + 4 + f.mails.length * 4 := ⟨_, rfl⟩
   rw [← hK2] at XT
   have MT := hide (fun (W : World) h => heldTombS_any f.tombs.length (.slice at1 f.tombs.length ct1) B K2 W hxs.2 (by omega) (by omega) (XT W h))
   obtain ⟨K3, hK3⟩ : ∃ K3, K3 = K2 + f.tombs.length * 2 := ⟨_, rfl⟩
   rw [N4, ← hK2] at MM
   rw [← hK3] at MT
   have hz9 : ((K + 4 + f.mails.length * 4 + f.tombs.length * 2 : Nat) : Int) = (K3 : Int) := by rw [hK3, hK2]
   have CC := fun (W : World) (h : OwnBs B W (.slice (some ⟨g, 0, none⟩) n c1) (markBs k0 L)) => br_of h.row (uh HG)
   simp only [markLb] at CC
   simp only [hz9] at CC
   have CE := hide CC; have HK2 := hide hK2; have HK3 := hide hK3
   have TX := hide (fun W => markText_any K W hK0 (by omega))
   have i1 : (0 : Int) ≤ (k : Int) := by omega
   have i2 : (k : Int) < (n : Int) := by omega
   have b3 : K3 ≤ 80000000 := by omega
   have j2 : ¬ (K2 : Int) < 0 := by omega
   have j3 : ¬ (K3 : Int) < 0 := by omega
   clear hK2 hK3 N4 XM XT CC hz9; have c0_1 := (uh CE _ (uh S1)).1
   go_wp2
   clear c0_1
   refine wp_region_held_drew (S := fun w' => w'.cell? ⟨g, k * 7, none⟩ = some (.string ⟨(mkL K).toArray⟩)) (by kernel_rfl) ((uh CE _ (uh S1)).1) (fun hHeld => ?_)
   replace S1 := hide ((uh S1).drew); replace BB := hide ((uh BB).drew)
   have sz1 : Hid (wr.heap.size ≤ wr.drew.heap.size) := Nat.le_refl _
   refine tv 0 12 ?_; refine tv 1 13 ?_; refine tv 2 14 ?_; refine tv 3 15 ?_; refine tv 4 16 ?_; refine tv 5 17 ?_
   refine wpAnyH_ready (rs := [6]) (by kernel_rfl) (by simp) ?_
   refine AllReadyH.cons rfl (fun K hK => ?_) AllReadyH.nil
   go_simp
   refine (uh TX _).mono ?_
   rintro e wh1 ⟨rfl, hb⟩
   replace S1 := hide ((uh S1).up hb); have sz2 := hide (hb.size); replace BB := hide (below_y (uh BB) hb); clear hb; go_wp2_with fail
   refine hK.out _ _ ((uh CE _ (uh S1)).1) (fun hHeld2 => ?_)
   clear hK K hHeld; have hHeld := hHeld2; clear hHeld2
   try simp only [Act.put, p1, p2, p3]
   refine tv 7 19 ?_
   refine wpAnyH_done (by kernel_rfl) ?_ _
   have c1_2 := (uh CE _ (uh S1)).2.1; have c2_2 := (uh CE _ (uh S1)).2.2.1; have c3_2 := (uh CE _ (uh S1)).2.2.2.1; have c4_2 := (uh CE _ (uh S1)).2.2.2.2.1; go_wp2_with fail; clear c1_2 c2_2 c3_2 c4_2
   refine (uh MM _ (uh S1)).mono ?_
   rintro e wh2 ⟨rfl, hb⟩
   replace S1 := hide ((uh S1).up hb); have sz3 := hide (hb.size); replace BB := hide (below_y (uh BB) hb); clear hb; have c5_3 := (uh CE _ (uh S1)).2.2.2.2.2.1; go_wp2_with fail; clear c5_3
   refine (uh MT _ (uh S1)).mono ?_
   rintro e wh3 ⟨rfl, hb⟩
   replace S1 := hide ((uh S1).up hb); have sz4 := hide (hb.size); replace BB := hide (below_y (uh BB) hb); clear hb; have c6_4 := (uh CE _ (uh S1)).2.2.2.2.2.2
   go_wp2
   go_roundw
   case rel => exact ⟨k + 1, K3 + 1, by omega, by rw [uh TK, sumB_snoc, uh HK3, uh HK2, uh HK]; simp only [stepB]; omega, by go_num, by go_num, uh S1, uh BB⟩
   case measure => simp [intOf]; omega
  ·have e : k = n := by omega
   subst e
   rw [List.take_of_length_le (by have := uh HN; omega)] at hK
   have BB := hide hbel; have HK := hide hK; clear hown hbel hK
   go_wp2
   go_ret
   exact ⟨by rw [uh HK]; rfl, uh BB⟩
set_option maxHeartbeats 4000000 in
set_option maxRecDepth 100000 in
theorem heldStore_any (L : List Lb) (v : Value) (n : Int) (B k0 : Nat) (w : World) (hl : sizeBs (L.map (·.b)) ≤ 4194304) (hs : ∀ x ∈ L, x.b.mails.length ≤ 1048576 ∧ x.b.tombs.length ≤ 1048576) (hk0 : 1 ≤ k0) (hk1 : k0 ≤ 10000000) (h : OwnBs B w v (markBs k0 L)) :
  Calls Try.prog 10 #[.agg #[v, .int .i64 n], .int .i64 (k0 : Int)] w fun e w' => e = .returned (.int .i64 ((k0 + sumB L : Nat) : Int)) ∧ Below w.heap.size w w' := by
 have hsh := g_shape h.row
 rw [markBs_len] at hsh
 obtain ⟨a1, c1, rfl⟩ := hsh
 have S1 := hide h; clear h; have BB := hide (Below.refl w.heap.size w)
 obtain ⟨wx1, hA⟩ : ∃ X, X = w.alloc (.cells ([.slice a1 L.length c1, .int .i64 n] : List Value).toArray 28) := ⟨_, rfl⟩
 have Ax : HasObj wx1 w.heap.size 28 [.slice a1 L.length c1, .int .i64 n] := by rw [hA]; exact HasObj.new _ _ _
 have hbn : Below w.heap.size w wx1 := by rw [hA]; exact (Below.refl _ _).alloc (Nat.le_refl _) _
 have loA : w.heap.size ≤ w.heap.size := (uh BB).size
 have EA := hA.symm; clear hA; replace S1 := hide ((uh S1).up hbn); have sz1 := hide (hbn.size); replace BB := hide (below_y (uh BB) hbn); clear hbn; have A := hide Ax; clear Ax; have Ac0_1 := (uh A).cell 0 rfl; have Ac1_1 := (uh A).cell 1 rfl
 go_enter Try.func10, Try.ntmps10
 have HM := hide (fun (W : World) h => heldBoxS_any L (.slice a1 L.length c1) B k0 W hl hs hk0 hk1 h)
 obtain ⟨K, hK⟩ : ∃ K, K = k0 + sumB L := ⟨_, rfl⟩
 rw [← hK] at HM ⊢
 have j1 : ¬ (K : Int) < 0 := by omega
 clear hK hl hs; go_wp2_with fail; clear Ac0_1 Ac1_1 EA
 refine (uh HM _ (uh S1)).mono ?_
 rintro e wx2 ⟨rfl, hb⟩
 replace A := hide ((uh A).ups hb); replace S1 := hide ((uh S1).up hb); have sz2 := hide (hb.size); replace BB := hide (below_y (uh BB) hb); clear hb
 go_wp2
 go_ret
 exact ⟨rfl, uh BB⟩
theorem OwnBs.set1 {B : Nat} {W : World} {v : Value} {l : List Lb} {b j : Nat} {t : TypeId} {vs : List Value} (h : OwnBs B W v l) (ho : HasObj W b t vs) (h0 : t ≠ 42) (h1 : t ≠ 76) (h2 : t ≠ 79) (u : Value) : OwnBs B (W.setCell ⟨b, j, none⟩ u) v l :=
 ⟨ho.row h0 h.row u, h.each.set ho h1 h2 u⟩
/-- A store that came in. -/
structure ArgSt (B : Nat) (w : World) (a : Option Addr) (s : Sx) : Prop where
 len : s.boxes.length ≤ maxLen
 boxes : ArgBs B w a s.boxes
theorem ArgSt.up {w w' : World} {a : Option Addr} {s : Sx} (h : ArgSt w.heap.size w a s) (hb : Below w.heap.size w w') : ArgSt w'.heap.size w' a s := ⟨h.len, h.boxes.up hb⟩
set_option maxHeartbeats 4000000 in
set_option maxRecDepth 100000 in
theorem szStore_sum (s : Sx) (a : Option Addr) (c L : Nat) (w : World) (hL : L ≤ 1048576) (h : ArgSt w.heap.size w a s) :
  Calls Try.prog 4 #[.agg #[.slice a s.boxes.length c, .int .i64 s.valid], .int .i64 (L : Int)] w fun e w' =>
   (∃ m : Int, e = .returned (.int .i64 m) ∧ (m = -1 ∨ ∃ q : Nat, m = (q : Int) ∧ q + sizeBs s.boxes ≤ L ∧ SmallBs L s.boxes)) ∧ Below w.heap.size w w' := by
 have HA := hide (fun W (hb : Below w.heap.size w W) => szBoxS_sum a c L s.boxes W hL h.len (h.up hb).boxes)
 clear h; have BB := hide (Below.refl w.heap.size w)
 obtain ⟨wy1, hA⟩ : ∃ X, X = w.alloc (.cells ([.slice a s.boxes.length c, .int .i64 s.valid] : List Value).toArray 24) := ⟨_, rfl⟩
 have Ax : HasObj wy1 w.heap.size 24 [.slice a s.boxes.length c, .int .i64 s.valid] := by rw [hA]; exact HasObj.new _ _ _
 have hbn : Below w.heap.size w wy1 := by rw [hA]; exact (Below.refl _ _).alloc (Nat.le_refl _) _
 have loA : w.heap.size ≤ w.heap.size := (uh BB).size
 have EA := hA.symm; clear hA; have sz1 := hide (hbn.size); replace BB := hide (below_y (uh BB) hbn); clear hbn; have A := hide Ax; clear Ax; have Ac0_1 := (uh A).cell 0 rfl; have Ac1_1 := (uh A).cell 1 rfl
 go_enter Try.func4, Try.ntmps4
 go_wp2_with fail; clear Ac0_1 Ac1_1 EA
 refine (uh HA _ (uh BB)).mono ?_
 rintro e wy2 ⟨⟨m, rfl, hm⟩, hb⟩
 replace A := hide ((uh A).ups hb); have sz2 := hide (hb.size); replace BB := hide (below_y (uh BB) hb); clear hb
 rcases hm with rfl | ⟨q, rfl, hq, hsm⟩
 ·go_wp2
  go_ret
  exact ⟨⟨_, rfl, .inl rfl⟩, uh BB⟩
 ·have j1 : ¬ (q : Int) < 0 := by omega
  have SM := hide hsm; have HQ := hide hq; clear hsm hq
  go_wp2
  go_ret
  exact ⟨⟨_, rfl, .inr ⟨q, rfl, uh HQ, uh SM⟩⟩, uh BB⟩
theorem fill2 {W : World} {r : Nat} {t : TypeId} {v0 v1 : Value} (h : HasObj W r t [v0, v1]) (u0 u1 : Value) :
  Filled W r t [u0, u1] ((W.setCell ⟨r, 0, none⟩ u0).setCell ⟨r, 1, none⟩ u1) := by
 have h1 := h.set 0 u0; have h2 := h1.set 1 u1
 refine ⟨h2, fun hne hb => ?_, fun hte hr => ?_, fun hn hb => ?_, by simp⟩
 ·exact ((hb.other (j := 0) hne u0).other (j := 1) hne u1)
 ·exact (h1.row (j := 1) hte (h.row (j := 0) hte hr u0) u1)
 ·exact ((hb.setCell (p := ⟨r, 0, none⟩) hn u0).setCell (p := ⟨r, 1, none⟩) hn u1)
set_option maxHeartbeats 4000000 in
set_option maxRecDepth 100000 in
theorem toStore_any (s : Sx) (a : Option Addr) (c : Nat) (w : World) (hs : SmallBs 1048576 s.boxes) (h : ArgSt w.heap.size w a s) :
  Calls Try.prog 6 #[.agg #[.slice a s.boxes.length c, .int .i64 s.valid]] w fun e w' => ∃ v L, L.map (·.b) = s.boxes ∧ e = .returned (.agg #[v, .int .i64 s.valid]) ∧ OwnBs w.heap.size w' v L ∧ L.Pairwise ApartB ∧ Below w.heap.size w w' := by
 have HA := hide (fun W (hb : Below w.heap.size w W) => toBoxS_any a c s.boxes W hs (h.up hb).boxes)
 clear h hs; have BB := hide (Below.refl w.heap.size w)
 obtain ⟨wz1, hA⟩ : ∃ X, X = w.alloc (.cells ([.slice a s.boxes.length c, .int .i64 s.valid] : List Value).toArray 24) := ⟨_, rfl⟩
 have Ax : HasObj wz1 w.heap.size 24 [.slice a s.boxes.length c, .int .i64 s.valid] := by rw [hA]; exact HasObj.new _ _ _
 have hbn : Below w.heap.size w wz1 := by rw [hA]; exact (Below.refl _ _).alloc (Nat.le_refl _) _
 have loA : w.heap.size ≤ w.heap.size := (uh BB).size
 have EA := hA.symm; clear hA; have sz1 := hide (hbn.size); replace BB := hide (below_y (uh BB) hbn); clear hbn; have A := hide Ax; clear Ax
 obtain ⟨wz2, hR⟩ : ∃ X, X = wz1.alloc (.cells ([.slice none 0 0, .int .i64 0] : List Value).toArray 28) := ⟨_, rfl⟩
 have Rx : HasObj wz2 wz1.heap.size 28 [.slice none 0 0, .int .i64 0] := by rw [hR]; exact HasObj.new _ _ _
 have hbn : Below wz1.heap.size wz1 wz2 := by rw [hR]; exact (Below.refl _ _).alloc (Nat.le_refl _) _
 have neAR : w.heap.size ≠ wz1.heap.size := Nat.ne_of_lt (uh A).lt
 have loR : w.heap.size ≤ wz1.heap.size := (uh BB).size
 have ER := hR.symm; clear hR; replace A := hide ((uh A).ups hbn); have sz2 := hide (hbn.size); replace BB := hide (below_y (uh BB) hbn); clear hbn; have R := hide Rx; clear Rx
 obtain ⟨wz3, hO⟩ : ∃ X, X = wz2.alloc (.cells ([.slice none 0 0, .int .i64 0] : List Value).toArray 28) := ⟨_, rfl⟩
 have Ox : HasObj wz3 wz2.heap.size 28 [.slice none 0 0, .int .i64 0] := by rw [hO]; exact HasObj.new _ _ _
 have hbn : Below wz2.heap.size wz2 wz3 := by rw [hO]; exact (Below.refl _ _).alloc (Nat.le_refl _) _
 have neAO : w.heap.size ≠ wz2.heap.size := Nat.ne_of_lt (uh A).lt
 have neRO : wz1.heap.size ≠ wz2.heap.size := Nat.ne_of_lt (uh R).lt
 have loO : w.heap.size ≤ wz2.heap.size := (uh BB).size
 have EO := hO.symm; clear hO; replace A := hide ((uh A).ups hbn); replace R := hide ((uh R).ups hbn); have sz3 := hide (hbn.size); replace BB := hide (below_y (uh BB) hbn); clear hbn; have O := hide Ox; clear Ox; have Ac0_1 := (uh A).cell 0 rfl; have Ac1_1 := (uh A).cell 1 rfl; have Oc0_2 := (uh O).cell 0 rfl; have Oc1_2 := (uh O).cell 1 rfl
 go_enter Try.func6, Try.ntmps6
 go_wp2_with fail; clear Ac0_1 Ac1_1 Oc0_2 Oc1_2 EA ER EO
 refine (uh HA _ (uh BB)).mono ?_
 rintro e wz4 ⟨v, L, hL, rfl, oS, hap, hb⟩
 obtain ⟨a1, c1, rfl⟩ := g_shape oS.row
 have OS_ := hide (oS.based (uh BB).size); have HAP := hide hap; have HL := hide hL; clear oS hap hL; replace A := hide ((uh A).ups hb); replace R := hide ((uh R).ups hb); replace O := hide ((uh O).ups hb); have sz4 := hide (hb.size); replace BB := hide (below_y (uh BB) hb); clear hb; have OS := OS_; clear OS_
 have OS_ := hide (OwnBs.set1 (j := 0) (uh OS) (uh O) (by decide) (by decide) (by decide) (.slice a1 L.length c1))
 clear OS; have Ofz0_3 := (uh O).frozen 0; have Ocz0_3 := (uh O).cell 0 rfl
 obtain ⟨wz5, hst⟩ : ∃ X, X = wz4.setCell ⟨wz2.heap.size, 0, none⟩ (.slice a1 L.length c1) := ⟨_, rfl⟩
 have A_ := hide ((uh A).other (j := 0) neAO (.slice a1 L.length c1))
 rw [← hst] at A_
 have R_ := hide ((uh R).other (j := 0) neRO (.slice a1 L.length c1))
 rw [← hst] at R_
 have O_ := hide ((uh O).set 0 (.slice a1 L.length c1))
 rw [← hst] at O_
 have BB_ := hide ((uh BB).setCell (p := ⟨wz2.heap.size, 0, none⟩) (show w.heap.size ≤ wz2.heap.size from loO) (.slice a1 L.length c1))
 rw [← hst] at BB_
 have sz5 : Hid (wz4.heap.size ≤ wz5.heap.size) := by show _ ≤ _; rw [hst]; simp
 replace A := A_; clear A_; replace R := R_; clear R_; replace O := O_; clear O_; replace BB := BB_; clear BB_; have Est5 := hst.symm; clear hst
 rw [Est5] at OS_
 have OS := OS_; clear OS_; have Ac0_4 := (uh A).cell 0 rfl; have Ac1_4 := (uh A).cell 1 rfl
 have OS_ := hide (OwnBs.set1 (j := 1) (uh OS) (uh O) (by decide) (by decide) (by decide) (.int .i64 s.valid))
 clear OS; have Ofz1_5 := (uh O).frozen 1; have Ocz1_5 := (uh O).cell 1 rfl
 obtain ⟨wz6, hst⟩ : ∃ X, X = wz5.setCell ⟨wz2.heap.size, 1, none⟩ (.int .i64 s.valid) := ⟨_, rfl⟩
 have A_ := hide ((uh A).other (j := 1) neAO (.int .i64 s.valid))
 rw [← hst] at A_
 have R_ := hide ((uh R).other (j := 1) neRO (.int .i64 s.valid))
 rw [← hst] at R_
 have O_ := hide ((uh O).set 1 (.int .i64 s.valid))
 rw [← hst] at O_
 have BB_ := hide ((uh BB).setCell (p := ⟨wz2.heap.size, 1, none⟩) (show w.heap.size ≤ wz2.heap.size from loO) (.int .i64 s.valid))
 rw [← hst] at BB_
 have sz6 : Hid (wz5.heap.size ≤ wz6.heap.size) := by show _ ≤ _; rw [hst]; simp
 replace A := A_; clear A_; replace R := R_; clear R_; replace O := O_; clear O_; replace BB := BB_; clear BB_; have Est6 := hst.symm; clear hst
 rw [Est6] at OS_
 have OS := OS_; clear OS_; have Oc0_6 := (uh O).cell 0 rfl; have Oc1_6 := (uh O).cell 1 rfl; have Rf0 := (uh R).frozen 0; have Rf1 := (uh R).frozen 1; have Re0 := (uh R).cell 0 rfl; have Re1 := (uh R).cell 1 rfl; have F := hide (fill2 (uh R) (.slice a1 L.length c1) (.int .i64 s.valid))
 obtain ⟨U, hU⟩ : ∃ U, U = ((wz6.setCell ⟨wz1.heap.size, 0, none⟩ (.slice a1 L.length c1)).setCell ⟨wz1.heap.size, 1, none⟩ (.int .i64 s.valid)) := ⟨_, rfl⟩
 have F9 := uh F
 rw [← hU] at F9
 have EU := hU.symm; clear F hU; have v0 := F9.obj.cell 0 rfl; have v1 := F9.obj.cell 1 rfl; have F := hide F9; clear F9
 go_wp2_with (refine bodyPost_ret (by simp [results, Try.results6, go_sem, v0, v1]; try rfl) rfl ?_)
 clear EU; have F := uh F
 exact ⟨_, L, uh HL, rfl, ⟨F.row (by decide) (uh OS).row, fun x hx => ⟨F.row (by decide) ((uh OS).each x hx).1, F.row (by decide) ((uh OS).each x hx).2⟩⟩, uh HAP, F.below loR (uh BB)⟩
end Go.Proofs.Ytanapiaobpoebaa
