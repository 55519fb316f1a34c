/- The specification's Expunge. Made by gen_expunges.py. -/
import Derived.Test.YtlngjflhbkannaaGreatAddMailS
import Derived.Test.YtlngjflhbkannaaGreatBoxA
import Derived.Test.YtlngjflhbkannaaGreatBoxP
import Derived.Test.YtlngjflhbkannaaGreatSetA
import Derived.Test.YtlngjflhbkannaaGreatRowStore
import Derived.Test.YtlngjflhbkannaaGreatFfA
import Derived.Test.YtlngjflhbkannaaGreatIntRow
import Derived.Deep.AppendLies
import Derived.Test.YtlngjflhbkannaaGreatSetHeld
import Derived.Test.YtlngjflhbkannaaGreatRegA
import Derived.BigQuiet
namespace Go.Proofs.YtlngjflhbkannaaGreat
open Go.RowKit
open Plain
set_option linter.unusedVariables false
set_option linter.unusedSimpArgs false

namespace Plain
def deadTo (b : Bx) (s : List Rg) (k : Nat) : List Tb := b.tombs ++ tombsOf b (goneTo8 b s k)
theorem deadTo_zero (b : Bx) (s : List Rg) : deadTo b s 0 = b.tombs := by simp [deadTo, goneTo8, goneM, tombsOf]
theorem deadTo_yes {b : Bx} {s : List Rg} {k : Nat} {m : Ml} (h : b.mails[k]? = some m) (hg : isGone s m = true) : deadTo b s (k + 1) = deadTo b s k ++ [⟨m.uid, b.mod + 1⟩] := by
 unfold deadTo tombsOf; rw [goneTo8_next h, if_pos hg, List.map_append, List.append_assoc]; rfl
theorem deadTo_no {b : Bx} {s : List Rg} {k : Nat} {m : Ml} (h : b.mails[k]? = some m) (hg : isGone s m = false) : deadTo b s (k + 1) = deadTo b s k := by
 unfold deadTo; rw [goneTo8_next h, if_neg (by rw [hg]; decide)]
theorem deadTo_len (b : Bx) (s : List Rg) (k : Nat) : (deadTo b s k).length ≤ b.tombs.length + b.mails.length := by
 have := goneTo8_len b s k
 simp [deadTo, tombsOf]; omega
theorem deadTo_all (b : Bx) (s : List Rg) : deadTo b s b.mails.length = b.tombs ++ tombsOf b (goneM s b.mails) := by unfold deadTo; rw [goneTo8_all]
theorem goneTo8_zero (b : Bx) (s : List Rg) : goneTo8 b s 0 = [] := by simp [goneTo8, goneM]
theorem leftTo8_zero (b : Bx) (s : List Rg) : leftTo8 b s 0 = [] := by simp [leftTo8, leftM]
theorem goneTo8_in {b : Bx} {s : List Rg} (h : boxOk b = true) (k : Nat) : (goneTo8 b s k).length ≤ 30 ∧ ∀ u ∈ goneTo8 b s k, 1 ≤ u ∧ u ≤ 9999 := by
 have h30 := (head_parts (boxOk_iff.1 h).1).2.2.2.2.1
 refine ⟨Nat.le_trans (goneTo8_len b s k) h30, fun u hu => ?_⟩
 obtain ⟨m, hm, rfl⟩ := List.mem_map.1 hu
 exact uids_right h m (List.mem_of_mem_take (List.mem_filter.1 hm).1)
theorem uids_small {b : Bx} (s : List Rg) (h : boxOk b = true) (k : Nat) : (uidsV (goneTo8 b s k)).length ≤ 40 := by
 obtain ⟨h1, h2⟩ := goneTo8_in (s := s) h k
 have := (uidsV_inv _ (goneTo8 b s k) rfl (by omega) h2).2.1
 omega
theorem flags_in {b : Bx} (h : boxOk b = true) : ∀ m ∈ b.mails, 0 ≤ m.flags ∧ m.flags ≤ 31 := by
 intro m hm
 obtain ⟨i, hi, rfl⟩ := List.getElem_of_mem hm
 have h1 := (boxOk_iff.1 h).2.1 i hi
 rw [mailAt_is (List.getElem?_eq_getElem hi)] at h1
 unfold mailRight at h1
 simp only [Bool.and_eq_true] at h1
 have h2 := h1.2.2.1
 unfold flOk at h2
 rw [Bool.and_eq_true] at h2
 exact ⟨of_decide_eq_true h2.1, of_decide_eq_true h2.2⟩
theorem trimS_len8 : ∀ (n : Nat) (ts : List Tb) (hor : Int), (trimS n (ts, hor)).1.length ≤ ts.length := by
 intro n
 induction n with
 | zero => intro ts hor; exact Nat.le_refl _
 | succ n ih =>
  intro ts hor
  unfold trimS
  split
  ·exact Nat.le_refl _
  ·cases ts with
   | nil => exact ih _ _
   | cons t r => exact Nat.le_trans (ih _ _) (Nat.le_trans (drop_less t r) (Nat.le_succ _))
theorem exp_fit8 {b : Bx} {s : List Rg} (h : FitBx b) (hb : boxOk b = true) : FitBx (expBox b s) := by
 have h40 := (head_parts (boxOk_iff.1 hb).1).2.2.2.2.2.1
 refine ⟨h.name, Nat.le_trans (leftM_len s b.mails) h.mails, fun m hm => h.texts m (List.mem_filter.1 hm).1, ?_⟩
 have h1 := trimS_len8 (b.tombs ++ tombsOf b (goneM s b.mails)).length (b.tombs ++ tombsOf b (goneM s b.mails)) b.hor; have h2 := (goneM_right (s := s) hb).1
 have h3 : (b.tombs ++ tombsOf b (goneM s b.mails)).length = b.tombs.length + (goneM s b.mails).length := by simp [tombsOf]
 exact Nat.le_trans (show (trimmed (b.tombs ++ tombsOf b (goneM s b.mails)) b.hor).1.length ≤ _ from h1) (by omega)
theorem drop_go {t : Tb} {r : List Tb} {h : Int} (hm : t.mod ≤ h) : (t :: r).dropWhile (fun y => decide (y.mod ≤ h)) = r.dropWhile (fun y => decide (y.mod ≤ h)) := List.dropWhile_cons_of_pos (by simpa using hm)
theorem drop_stop {t : Tb} {r : List Tb} {h : Int} (hm : ¬ t.mod ≤ h) : (t :: r).dropWhile (fun y => decide (y.mod ≤ h)) = t :: r := List.dropWhile_cons_of_neg (by simpa using hm)
end Plain
theorem own_len {W : World} {B size n m : Nat} {e : TypeId} {v : Value} {xs : List Value} (h : W.ownsRow B e size v n xs) (hl : xs.length = m * size) (hs : 0 < size) : W.ownsRow B e size v m xs := by
 have h1 := h.1
 have : n = m := Nat.eq_of_mul_eq_mul_right hs (h1.symm.trans hl)
 subst this
 exact h
theorem rowC_cons (t : Tb) (r : List Tb) : rowC tbC (t :: r) = tbC t ++ rowC tbC r := rfl
theorem rowC_len2 (r : List Tb) : (rowC tbC r).length = r.length * 2 := by
 induction r with
 | nil => rfl
 | cons t r ih => rw [rowC_cons, List.length_append, ih, List.length_cons]; show 2 + _ = _; omega
theorem own_fresh {W : World} {B n : Nat} {v : Value} {r1 : List Tb} (h : W.ownsRow B 117 2 v n (rowC tbC [] ++ rowC tbC r1)) : OwnTb B W v r1 := by
 have e : rowC tbC ([] : List Tb) ++ rowC tbC r1 = rowC tbC r1 := List.nil_append _
 rw [e] at h
 exact own_len h (rowC_len2 r1) (by decide)
theorem rowT_one {r : List Tb} {u : Value} (h : u ∈ rowC tbC r) : u.oneCell' = true := by
 induction r with
 | nil => cases h
 | cons t r ih =>
  rw [rowC_cons, List.mem_append] at h
  rcases h with h | h
  ·simp [tbC] at h
   rcases h with rfl | rfl <;> rfl
  ·exact ih h
theorem row_tail {W : World} {B g1 c : Nat} {t1 : Tb} {r1 : List Tb} (h : OwnTb B W (.slice (some ⟨g1, 0, none⟩) (t1 :: r1).length c) (t1 :: r1)) {j : Nat} {u : Value} (hu : (rowC tbC r1)[j]? = some u) : W.cell? ⟨g1, 2 + j, none⟩ = some u := by
 unfold OwnTb at h
 have hj : j < (rowC tbC r1).length := (List.getElem?_eq_some_iff.1 hu).1
 rw [rowC_len2] at hj
 have h2 := h.cellAt (2 + j) (by simp only [List.length_cons]; omega)
 rw [h2, rowC_cons, List.getElem?_append_right (by show 2 ≤ 2 + j; omega)]
 show (rowC tbC r1)[2 + j - 2]? = _
 rw [Nat.add_sub_cancel_left]; exact hu
theorem cap_le {W : World} {B g c n m : Nat} {l : List Tb} (h : OwnTb B W (.slice (some ⟨g, 0, none⟩) n c) l) (hm : l.length = m) : m ≤ c := by
 unfold OwnTb at h
 rcases h.2 with ⟨h1, _⟩ | ⟨g', cap, cur, h1, _, _, h2, _⟩
 ·cases h1
 ·cases h1; omega
def lenAt5 (q : Nat) (w : World) : Nat := match w.cell? ⟨q, 5, none⟩ with | some (.slice _ n _) => n | _ => 0
set_option maxHeartbeats 16000000 in
set_option maxRecDepth 100000 in
theorem spec_Expunge_any (b : Bx) (m t : Value) (B0 : Nat) (s : List Rg) (vs : Value) (w : World) (hf : FitBx b) (hsl : s.length ≤ 1048576) (hR : ReadR w vs s) (h : OwnBx B0 w m t b) :
  Calls Tryz.prog 22 #[boxV b m t, vs] w fun e w' => ∃ m' t' vd, e = .returned (.tuple #[boxV (expV b s).1 m' t', vd]) ∧ OwnBx w.heap.size w' m' t' (expV b s).1 ∧ OwnR w.heap.size w' vd (expV b s).2 ∧ Below w.heap.size w w' := by
 obtain ⟨iT, hT, hT0, hT1, hT2⟩ := info_parts Tryz.infoTomb
 obtain ⟨iM, hM, hM0, hM1, hM2⟩ := info_parts Tryz.infoMail
 have hl1 := hf.mails; have hl2 := hf.tombs
 have HMR := hide (fun (W : World) hb k f hx => ml_read (W := W) h.1 hb (k := k) (f := f) hx)
 obtain ⟨am, cm, rfl⟩ := g_shape h.1
 obtain ⟨at1, ct1, rfl⟩ := g_shape h.2
 have HO := hide h; have HF := hide hf; have HR := hide hR
 have V1 := hide (fun hq => expV_no1 (b := b) (s := s) hq)
 have V2 := hide (fun hq => expV_no2 (b := b) (s := s) hq)
 have V3 := hide (fun hq => expV_no3 (b := b) (s := s) hq)
 have V4 := hide (fun h1 h2 h3 => expV_yes (b := b) (s := s) h1 h2 h3)
 clear h hf hR; have BB := hide (Below.refl w.heap.size w)
 obtain ⟨w1, hP⟩ : ∃ X, X = w.alloc (.cells ([.string b.name, .int .i64 b.valid, .int .i64 b.next, .int .i64 b.mod, .slice am b.mails.length cm, .slice at1 b.tombs.length ct1, .int .i64 b.hor] : List Value).toArray 50) := ⟨_, rfl⟩
 have Px : HasObj w1 w.heap.size 50 [.string b.name, .int .i64 b.valid, .int .i64 b.next, .int .i64 b.mod, .slice am b.mails.length cm, .slice at1 b.tombs.length ct1, .int .i64 b.hor] := by rw [hP]; exact HasObj.new _ _ _
 have hbn : Below w.heap.size w w1 := by rw [hP]; exact (Below.refl _ _).alloc (Nat.le_refl _) _
 have loP : w.heap.size ≤ w.heap.size := (uh BB).size
 have EP := hP.symm; clear hP; have sz1 := hide (hbn.size); replace BB := hide (below_y (uh BB) hbn); clear hbn; have P := hide Px; clear Px
 obtain ⟨w2, hR⟩ : ∃ X, X = w1.alloc (.cells ([.string ⟨#[]⟩, .int .i64 0, .int .i64 0, .int .i64 0, .slice none 0 0, .slice none 0 0, .int .i64 0] : List Value).toArray 50) := ⟨_, rfl⟩
 have Rx : HasObj w2 w1.heap.size 50 [.string ⟨#[]⟩, .int .i64 0, .int .i64 0, .int .i64 0, .slice none 0 0, .slice none 0 0, .int .i64 0] := by rw [hR]; exact HasObj.new _ _ _
 have hbn : Below w1.heap.size w1 w2 := by rw [hR]; exact (Below.refl _ _).alloc (Nat.le_refl _) _
 have nePR : w.heap.size ≠ w1.heap.size := Nat.ne_of_lt (uh P).lt
 have loR : w.heap.size ≤ w1.heap.size := (uh BB).size
 have ER := hR.symm; clear hR; replace P := hide ((uh P).ups hbn); have sz2 := hide (hbn.size); replace BB := hide (below_y (uh BB) hbn); clear hbn; have R := hide Rx; clear Rx; have Pc0_1 := (uh P).cell 0 rfl; have Pc1_1 := (uh P).cell 1 rfl; have Pc2_1 := (uh P).cell 2 rfl; have Pc3_1 := (uh P).cell 3 rfl; have Pc4_1 := (uh P).cell 4 rfl; have Pc5_1 := (uh P).cell 5 rfl; have Pc6_1 := (uh P).cell 6 rfl
 go_enter Tryz.func22, Tryz.ntmps22
 go_wp2_with fail; clear Pc0_1 Pc1_1 Pc2_1 Pc3_1 Pc4_1 Pc5_1 Pc6_1 EP ER
 refine (l08Copy_any b _ _ B0 _ hl1 hl2 ((uh HO).up (uh BB))).mono ?_
 rintro e w3 ⟨mS, tS, rfl, oS, hb⟩
 obtain ⟨amS, cmS, rfl⟩ := g_shape oS.1
 obtain ⟨atS, ctS, rfl⟩ := g_shape oS.2
 have NS := hide (OwnBx.base oS); replace P := hide ((uh P).ups hb); replace R := hide ((uh R).ups hb); have sz3 := hide (hb.size); replace BB := hide (below_y (uh BB) hb); clear hb; have OS := hide oS; clear oS
 obtain ⟨w4, hS⟩ : ∃ X, X = w3.alloc (.cells ([.string b.name, .int .i64 b.valid, .int .i64 b.next, .int .i64 b.mod, .slice amS b.mails.length cmS, .slice atS b.tombs.length ctS, .int .i64 b.hor] : List Value).toArray 50) := ⟨_, rfl⟩
 have Sx : HasObj w4 w3.heap.size 50 [.string b.name, .int .i64 b.valid, .int .i64 b.next, .int .i64 b.mod, .slice amS b.mails.length cmS, .slice atS b.tombs.length ctS, .int .i64 b.hor] := by rw [hS]; exact HasObj.new _ _ _
 have hbn : Below w3.heap.size w3 w4 := by rw [hS]; exact (Below.refl _ _).alloc (Nat.le_refl _) _
 have nePS : w.heap.size ≠ w3.heap.size := Nat.ne_of_lt (uh P).lt
 have neRS : w1.heap.size ≠ w3.heap.size := Nat.ne_of_lt (uh R).lt
 have loS : w.heap.size ≤ w3.heap.size := (uh BB).size
 have ES := hS.symm; clear hS; replace P := hide ((uh P).ups hbn); replace R := hide ((uh R).ups hbn); replace OS := hide ((uh OS).up hbn); have sz4 := hide (hbn.size); replace BB := hide (below_y (uh BB) hbn); clear hbn; have S := hide Sx; clear Sx
 obtain ⟨w5, hRD⟩ : ∃ X, X = w4.alloc (.cells #[] 106) := ⟨_, rfl⟩
 have oRD : OwnR w4.heap.size w5 (.slice (some ⟨w4.heap.size, 0, none⟩) 0 0) [] := by rw [hRD]; exact World.ownsRow_lit (size := 2) (e := 106) w4 #[] 0 (Nat.le_refl _) (Nat.zero_le _) rfl
 have hbn : Below w4.heap.size w4 w5 := by rw [hRD]; exact (Below.refl _ _).alloc (Nat.le_refl _) _
 have ERD := hRD.symm; clear hRD; replace P := hide ((uh P).ups hbn); replace R := hide ((uh R).ups hbn); replace S := hide ((uh S).ups hbn); replace OS := hide ((uh OS).up hbn); have sz5 := hide (hbn.size); replace BB := hide (below_y (uh BB) hbn); clear hbn; have RD := hide oRD; clear oRD; have Pc0_2 := (uh P).cell 0 rfl; have Pc1_2 := (uh P).cell 1 rfl; have Pc2_2 := (uh P).cell 2 rfl; have Pc3_2 := (uh P).cell 3 rfl; have Pc4_2 := (uh P).cell 4 rfl; have Pc5_2 := (uh P).cell 5 rfl; have Pc6_2 := (uh P).cell 6 rfl; go_wp2_with fail; clear Pc0_2 Pc1_2 Pc2_2 Pc3_2 Pc4_2 Pc5_2 Pc6_2 ES ERD
 refine (spec_BoxOk_any b _ _ B0 _ (uh HF) ((uh HO).up (uh BB))).mono ?_
 rintro e w6 ⟨rfl, hb⟩
 replace P := hide ((uh P).ups hb); replace R := hide ((uh R).ups hb); replace S := hide ((uh S).ups hb); replace OS := hide ((uh OS).up hb); replace RD := hide ((uh RD).up hb); have sz6 := hide (hb.size); replace BB := hide (below_y (uh BB) hb); clear hb
 cases hq1 : boxOk b with
 | false =>
  have Sc0_3 := (uh S).cell 0 rfl; have Sc1_3 := (uh S).cell 1 rfl; have Sc2_3 := (uh S).cell 2 rfl; have Sc3_3 := (uh S).cell 3 rfl; have Sc4_3 := (uh S).cell 4 rfl; have Sc5_3 := (uh S).cell 5 rfl; have Sc6_3 := (uh S).cell 6 rfl
  have V := hide (uh V1 (by rw [hq1]; rfl))
  have Rf0 := (uh R).frozen 0; have Rf1 := (uh R).frozen 1; have Rf2 := (uh R).frozen 2; have Rf3 := (uh R).frozen 3; have Rf4 := (uh R).frozen 4; have Rf5 := (uh R).frozen 5; have Rf6 := (uh R).frozen 6; have Re0 := (uh R).cell 0 rfl; have Re1 := (uh R).cell 1 rfl; have Re2 := (uh R).cell 2 rfl; have Re3 := (uh R).cell 3 rfl; have Re4 := (uh R).cell 4 rfl; have Re5 := (uh R).cell 5 rfl; have Re6 := (uh R).cell 6 rfl; have F := hide (fill7 (uh R) (.string b.name) (.int .i64 b.valid) (.int .i64 b.next) (.int .i64 b.mod) (.slice amS b.mails.length cmS) (.slice atS b.tombs.length ctS) (.int .i64 b.hor))
  obtain ⟨U, hU⟩ : ∃ U, U = (((((((w6.setCell ⟨w1.heap.size, 0, none⟩ (.string b.name)).setCell ⟨w1.heap.size, 1, none⟩ (.int .i64 b.valid)).setCell ⟨w1.heap.size, 2, none⟩ (.int .i64 b.next)).setCell ⟨w1.heap.size, 3, none⟩ (.int .i64 b.mod)).setCell ⟨w1.heap.size, 4, none⟩ (.slice amS b.mails.length cmS)).setCell ⟨w1.heap.size, 5, none⟩ (.slice atS b.tombs.length ctS)).setCell ⟨w1.heap.size, 6, none⟩ (.int .i64 b.hor)) := ⟨_, rfl⟩
  have F9 := uh F
  rw [← hU] at F9
  have EU := hU.symm; clear F hU; have v0 := F9.obj.cell 0 rfl; have v1 := F9.obj.cell 1 rfl; have v2 := F9.obj.cell 2 rfl; have v3 := F9.obj.cell 3 rfl; have v4 := F9.obj.cell 4 rfl; have v5 := F9.obj.cell 5 rfl; have v6 := F9.obj.cell 6 rfl; have F := hide F9; clear F9
  go_wp2_with (refine bodyPost_ret (by simp [results, Tryz.results22, go_sem, v0, v1, v2, v3, v4, v5, v6]; try rfl) rfl ?_)
  clear EU; have F := uh F
  refine ⟨.slice amS b.mails.length cmS, .slice atS b.tombs.length ctS, .slice (some ⟨w4.heap.size, 0, none⟩) 0 0, by rw [uh V], ?_, ?_, F.below loR (uh BB)⟩
  ·rw [uh V]; exact ⟨g_based (F.row (by decide) (uh OS).1) (by have sz1_ := uh sz1; have sz2_ := uh sz2; have sz3_ := uh sz3; have sz4_ := uh sz4; have sz5_ := uh sz5; have sz6_ := uh sz6; omega), g_based (F.row (by decide) (uh OS).2) (by have sz1_ := uh sz1; have sz2_ := uh sz2; have sz3_ := uh sz3; have sz4_ := uh sz4; have sz5_ := uh sz5; have sz6_ := uh sz6; omega)⟩
  ·rw [uh V]; exact g_based (F.row (by decide) (uh RD)) (by have sz1_ := uh sz1; have sz2_ := uh sz2; have sz3_ := uh sz3; have sz4_ := uh sz4; have sz5_ := uh sz5; have sz6_ := uh sz6; omega)
 | true =>
  go_wp2_with fail
  refine (setOk_held s vs _ hsl ((uh HR).up (uh BB))).mono ?_
  rintro e w7 ⟨rfl, hb⟩
  replace P := hide ((uh P).ups hb); replace R := hide ((uh R).ups hb); replace S := hide ((uh S).ups hb); replace OS := hide ((uh OS).up hb); replace RD := hide ((uh RD).up hb); have sz7 := hide (hb.size); replace BB := hide (below_y (uh BB) hb); clear hb
  cases hq2 : okS s with
  | false =>
   have Sc0_3 := (uh S).cell 0 rfl; have Sc1_3 := (uh S).cell 1 rfl; have Sc2_3 := (uh S).cell 2 rfl; have Sc3_3 := (uh S).cell 3 rfl; have Sc4_3 := (uh S).cell 4 rfl; have Sc5_3 := (uh S).cell 5 rfl; have Sc6_3 := (uh S).cell 6 rfl
   have V := hide (uh V1 (by rw [hq1, hq2]; rfl))
   have Rf0 := (uh R).frozen 0; have Rf1 := (uh R).frozen 1; have Rf2 := (uh R).frozen 2; have Rf3 := (uh R).frozen 3; have Rf4 := (uh R).frozen 4; have Rf5 := (uh R).frozen 5; have Rf6 := (uh R).frozen 6; have Re0 := (uh R).cell 0 rfl; have Re1 := (uh R).cell 1 rfl; have Re2 := (uh R).cell 2 rfl; have Re3 := (uh R).cell 3 rfl; have Re4 := (uh R).cell 4 rfl; have Re5 := (uh R).cell 5 rfl; have Re6 := (uh R).cell 6 rfl; have F := hide (fill7 (uh R) (.string b.name) (.int .i64 b.valid) (.int .i64 b.next) (.int .i64 b.mod) (.slice amS b.mails.length cmS) (.slice atS b.tombs.length ctS) (.int .i64 b.hor))
   obtain ⟨U, hU⟩ : ∃ U, U = (((((((w7.setCell ⟨w1.heap.size, 0, none⟩ (.string b.name)).setCell ⟨w1.heap.size, 1, none⟩ (.int .i64 b.valid)).setCell ⟨w1.heap.size, 2, none⟩ (.int .i64 b.next)).setCell ⟨w1.heap.size, 3, none⟩ (.int .i64 b.mod)).setCell ⟨w1.heap.size, 4, none⟩ (.slice amS b.mails.length cmS)).setCell ⟨w1.heap.size, 5, none⟩ (.slice atS b.tombs.length ctS)).setCell ⟨w1.heap.size, 6, none⟩ (.int .i64 b.hor)) := ⟨_, rfl⟩
   have F9 := uh F
   rw [← hU] at F9
   have EU := hU.symm; clear F hU; have v0 := F9.obj.cell 0 rfl; have v1 := F9.obj.cell 1 rfl; have v2 := F9.obj.cell 2 rfl; have v3 := F9.obj.cell 3 rfl; have v4 := F9.obj.cell 4 rfl; have v5 := F9.obj.cell 5 rfl; have v6 := F9.obj.cell 6 rfl; have F := hide F9; clear F9
   go_wp2_with (refine bodyPost_ret (by simp [results, Tryz.results22, go_sem, v0, v1, v2, v3, v4, v5, v6]; try rfl) rfl ?_)
   clear EU; have F := uh F
   refine ⟨.slice amS b.mails.length cmS, .slice atS b.tombs.length ctS, .slice (some ⟨w4.heap.size, 0, none⟩) 0 0, by rw [uh V], ?_, ?_, F.below loR (uh BB)⟩
   ·rw [uh V]; exact ⟨g_based (F.row (by decide) (uh OS).1) (by have sz1_ := uh sz1; have sz2_ := uh sz2; have sz3_ := uh sz3; have sz4_ := uh sz4; have sz5_ := uh sz5; have sz6_ := uh sz6; have sz7_ := uh sz7; omega), g_based (F.row (by decide) (uh OS).2) (by have sz1_ := uh sz1; have sz2_ := uh sz2; have sz3_ := uh sz3; have sz4_ := uh sz4; have sz5_ := uh sz5; have sz6_ := uh sz6; have sz7_ := uh sz7; omega)⟩
   ·rw [uh V]; exact g_based (F.row (by decide) (uh RD)) (by have sz1_ := uh sz1; have sz2_ := uh sz2; have sz3_ := uh sz3; have sz4_ := uh sz4; have sz5_ := uh sz5; have sz6_ := uh sz6; have sz7_ := uh sz7; omega)
  | true =>
   have OK2 : Hid ((boxOk b && okS s) = true) := by show _ = _; rw [hq1, hq2]; rfl
   have OK1 := hide hq1; have hmod := inI_iff.1 (head_parts (boxOk_iff.1 hq1).1).2.2.2.1; have h30 := (head_parts (boxOk_iff.1 hq1).1).2.2.2.2.1; have h40 := (head_parts (boxOk_iff.1 hq1).1).2.2.2.2.2.1; have US := hide (uids_small s hq1); have FLR := hide (flags_in hq1); have FE := hide (exp_fit8 (s := s) (uh HF) hq1)
   have UE := hide (uidsV_empty (Nat.le_trans (goneM_right (s := s) hq1).1 (by decide)) (goneM_right (s := s) hq1).2)
   clear hq1 hq2
   have nm : IntKind.i64.wrap (b.mod + 1) = b.mod + 1 := by rw [IntKind.wrap_i64]; omega
   have Pc0_3 := (uh P).cell 0 rfl; have Pc1_3 := (uh P).cell 1 rfl; have Pc2_3 := (uh P).cell 2 rfl; have Pc3_3 := (uh P).cell 3 rfl; have Pc4_3 := (uh P).cell 4 rfl; have Pc5_3 := (uh P).cell 5 rfl; have Pc6_3 := (uh P).cell 6 rfl; go_wp2_with fail; clear Pc0_3 Pc1_3 Pc2_3 Pc3_3 Pc4_3 Pc5_3 Pc6_3
   refine (l08Copy_any b _ _ B0 _ hl1 hl2 ((uh HO).up (uh BB))).mono ?_
   rintro e w8 ⟨mQ, tQ, rfl, oQ, hb⟩
   obtain ⟨amQ, cmQ, rfl⟩ := g_shape oQ.1
   obtain ⟨atQ, ctQ, rfl⟩ := g_shape oQ.2
   have NQ := hide (OwnBx.base oQ); replace P := hide ((uh P).ups hb); replace R := hide ((uh R).ups hb); replace S := hide ((uh S).ups hb); replace OS := hide ((uh OS).up hb); replace RD := hide ((uh RD).up hb); have sz8 := hide (hb.size); replace BB := hide (below_y (uh BB) hb); clear hb; have OQ := hide oQ; clear oQ
   obtain ⟨w9, hQ⟩ : ∃ X, X = w8.alloc (.cells ([.string b.name, .int .i64 b.valid, .int .i64 b.next, .int .i64 b.mod, .slice amQ b.mails.length cmQ, .slice atQ b.tombs.length ctQ, .int .i64 b.hor] : List Value).toArray 50) := ⟨_, rfl⟩
   have Qx : HasObj w9 w8.heap.size 50 [.string b.name, .int .i64 b.valid, .int .i64 b.next, .int .i64 b.mod, .slice amQ b.mails.length cmQ, .slice atQ b.tombs.length ctQ, .int .i64 b.hor] := by rw [hQ]; exact HasObj.new _ _ _
   have hbn : Below w8.heap.size w8 w9 := by rw [hQ]; exact (Below.refl _ _).alloc (Nat.le_refl _) _
   have nePQ : w.heap.size ≠ w8.heap.size := Nat.ne_of_lt (uh P).lt
   have neRQ : w1.heap.size ≠ w8.heap.size := Nat.ne_of_lt (uh R).lt
   have neSQ : w3.heap.size ≠ w8.heap.size := Nat.ne_of_lt (uh S).lt
   have loQ : w.heap.size ≤ w8.heap.size := (uh BB).size
   have EQ := hQ.symm; clear hQ; replace P := hide ((uh P).ups hbn); replace R := hide ((uh R).ups hbn); replace S := hide ((uh S).ups hbn); replace OS := hide ((uh OS).up hbn); replace RD := hide ((uh RD).up hbn); replace OQ := hide ((uh OQ).up hbn); have sz9 := hide (hbn.size); replace BB := hide (below_y (uh BB) hbn); clear hbn; have Q := hide Qx; clear Qx
   have RT : Hid (OwnTb w7.heap.size w9 (.slice atQ b.tombs.length ctQ) (deadTo b s 0)) := by show OwnTb _ _ _ _; rw [deadTo_zero]; exact (uh OQ).2
   clear OQ NQ
   have SEP : Hid (∀ x, (Value.ownBlock (.slice amS b.mails.length cmS) = some x ∨ Value.ownBlock (.slice atS b.tombs.length ctS) = some x) → x < w7.heap.size) := fun x hx => by have q1 := (uh NS x hx).2; have sz1_ := uh sz1; have sz2_ := uh sz2; have sz3_ := uh sz3; have sz4_ := uh sz4; have sz5_ := uh sz5; have sz6_ := uh sz6; have sz7_ := uh sz7; have sz8_ := uh sz8; have sz9_ := uh sz9; omega
   clear NS
   have lQ : w.heap.size ≤ w7.heap.size := by have sz1_ := uh sz1; have sz2_ := uh sz2; have sz3_ := uh sz3; have sz4_ := uh sz4; have sz5_ := uh sz5; have sz6_ := uh sz6; have sz7_ := uh sz7; have sz8_ := uh sz8; have sz9_ := uh sz9; omega
   have lQQ : w7.heap.size ≤ w8.heap.size := by have sz1_ := uh sz1; have sz2_ := uh sz2; have sz3_ := uh sz3; have sz4_ := uh sz4; have sz5_ := uh sz5; have sz6_ := uh sz6; have sz7_ := uh sz7; have sz8_ := uh sz8; have sz9_ := uh sz9; omega
   obtain ⟨w10, hRM⟩ : ∃ X, X = w9.alloc (.cells #[] 100) := ⟨_, rfl⟩
   have oRM : OwnMl w9.heap.size w10 (.slice (some ⟨w9.heap.size, 0, none⟩) 0 0) [] := by rw [hRM]; exact World.ownsRow_lit (size := 4) (e := 100) w9 #[] 0 (Nat.le_refl _) (Nat.zero_le _) rfl
   have hbn : Below w9.heap.size w9 w10 := by rw [hRM]; exact (Below.refl _ _).alloc (Nat.le_refl _) _
   have ERM := hRM.symm; clear hRM; replace P := hide ((uh P).ups hbn); replace R := hide ((uh R).ups hbn); replace S := hide ((uh S).ups hbn); replace Q := hide ((uh Q).ups hbn); replace OS := hide ((uh OS).up hbn); replace RD := hide ((uh RD).up hbn); replace RT := hide ((uh RT).up hbn); have sz10 := hide (hbn.size); replace BB := hide (below_y (uh BB) hbn); clear hbn; have RM := hide oRM; clear oRM; have Qc0_4 := (uh Q).cell 0 rfl; have Qc1_4 := (uh Q).cell 1 rfl; have Qc2_4 := (uh Q).cell 2 rfl; have Qc3_4 := (uh Q).cell 3 rfl; have Qc4_4 := (uh Q).cell 4 rfl; have Qc5_4 := (uh Q).cell 5 rfl; have Qc6_4 := (uh Q).cell 6 rfl; have Qfz4_5 := (uh Q).frozen 4; have Qcz4_5 := (uh Q).cell 4 rfl
   obtain ⟨w11, hst⟩ : ∃ X, X = w10.setCell ⟨w8.heap.size, 4, none⟩ (.slice (some ⟨w9.heap.size, 0, none⟩) 0 0) := ⟨_, rfl⟩
   have OS_ : Hid (OwnBx w2.heap.size w11 (.slice amS b.mails.length cmS) (.slice atS b.tombs.length ctS) b) := by show OwnBx _ _ _ _ _; rw [hst]; exact ⟨(uh Q).row (j := 4) (by decide) (uh OS).1 _, (uh Q).row (j := 4) (by decide) (uh OS).2 _⟩
   have RD_ : Hid (OwnR w4.heap.size w11 (.slice (some ⟨w4.heap.size, 0, none⟩) 0 0) ([])) := by show OwnR _ _ _ _; rw [hst]; exact (uh Q).row (j := 4) (by decide) (uh RD) _
   have RT_ : Hid (OwnTb w7.heap.size w11 (.slice atQ b.tombs.length ctQ) (deadTo b s 0)) := by show OwnTb _ _ _ _; rw [hst]; exact (uh Q).row (j := 4) (by decide) (uh RT) _
   have RM_ : Hid (OwnMl w9.heap.size w11 (.slice (some ⟨w9.heap.size, 0, none⟩) 0 0) ([])) := by show OwnMl _ _ _ _; rw [hst]; exact (uh Q).row (j := 4) (by decide) (uh RM) _
   have P_ := hide ((uh P).other (j := 4) nePQ (.slice (some ⟨w9.heap.size, 0, none⟩) 0 0))
   rw [← hst] at P_
   have R_ := hide ((uh R).other (j := 4) neRQ (.slice (some ⟨w9.heap.size, 0, none⟩) 0 0))
   rw [← hst] at R_
   have S_ := hide ((uh S).other (j := 4) neSQ (.slice (some ⟨w9.heap.size, 0, none⟩) 0 0))
   rw [← hst] at S_
   have Q_ := hide ((uh Q).set 4 (.slice (some ⟨w9.heap.size, 0, none⟩) 0 0))
   rw [← hst] at Q_
   have BB_ := hide ((uh BB).setCell (p := ⟨w8.heap.size, 4, none⟩) (show w.heap.size ≤ w8.heap.size from loQ) (.slice (some ⟨w9.heap.size, 0, none⟩) 0 0))
   rw [← hst] at BB_
   have sz11 : Hid (w10.heap.size ≤ w11.heap.size) := by show _ ≤ _; rw [hst]; simp
   replace OS := OS_; clear OS_; replace RD := RD_; clear RD_; replace RT := RT_; clear RT_; replace RM := RM_; clear RM_; replace P := P_; clear P_; replace R := R_; clear R_; replace S := S_; clear S_; replace Q := Q_; clear Q_; replace BB := BB_; clear BB_; have Est11 := hst.symm; clear hst; have Pc0_6 := (uh P).cell 0 rfl; have Pc1_6 := (uh P).cell 1 rfl; have Pc2_6 := (uh P).cell 2 rfl; have Pc3_6 := (uh P).cell 3 rfl; have Pc4_6 := (uh P).cell 4 rfl; have Pc5_6 := (uh P).cell 5 rfl; have Pc6_6 := (uh P).cell 6 rfl; have Qfz3_7 := (uh Q).frozen 3; have Qcz3_7 := (uh Q).cell 3 rfl
   obtain ⟨w12, hst⟩ : ∃ X, X = w11.setCell ⟨w8.heap.size, 3, none⟩ (.int .i64 (b.mod + 1)) := ⟨_, rfl⟩
   have OS_ : Hid (OwnBx w2.heap.size w12 (.slice amS b.mails.length cmS) (.slice atS b.tombs.length ctS) b) := by show OwnBx _ _ _ _ _; rw [hst]; exact ⟨(uh Q).row (j := 3) (by decide) (uh OS).1 _, (uh Q).row (j := 3) (by decide) (uh OS).2 _⟩
   have RD_ : Hid (OwnR w4.heap.size w12 (.slice (some ⟨w4.heap.size, 0, none⟩) 0 0) ([])) := by show OwnR _ _ _ _; rw [hst]; exact (uh Q).row (j := 3) (by decide) (uh RD) _
   have RT_ : Hid (OwnTb w7.heap.size w12 (.slice atQ b.tombs.length ctQ) (deadTo b s 0)) := by show OwnTb _ _ _ _; rw [hst]; exact (uh Q).row (j := 3) (by decide) (uh RT) _
   have RM_ : Hid (OwnMl w9.heap.size w12 (.slice (some ⟨w9.heap.size, 0, none⟩) 0 0) ([])) := by show OwnMl _ _ _ _; rw [hst]; exact (uh Q).row (j := 3) (by decide) (uh RM) _
   have P_ := hide ((uh P).other (j := 3) nePQ (.int .i64 (b.mod + 1)))
   rw [← hst] at P_
   have R_ := hide ((uh R).other (j := 3) neRQ (.int .i64 (b.mod + 1)))
   rw [← hst] at R_
   have S_ := hide ((uh S).other (j := 3) neSQ (.int .i64 (b.mod + 1)))
   rw [← hst] at S_
   have Q_ := hide ((uh Q).set 3 (.int .i64 (b.mod + 1)))
   rw [← hst] at Q_
   have BB_ := hide ((uh BB).setCell (p := ⟨w8.heap.size, 3, none⟩) (show w.heap.size ≤ w8.heap.size from loQ) (.int .i64 (b.mod + 1)))
   rw [← hst] at BB_
   have sz12 : Hid (w11.heap.size ≤ w12.heap.size) := by show _ ≤ _; rw [hst]; simp
   replace OS := OS_; clear OS_; replace RD := RD_; clear RD_; replace RT := RT_; clear RT_; replace RM := RM_; clear RM_; replace P := P_; clear P_; replace R := R_; clear R_; replace S := S_; clear S_; replace Q := Q_; clear Q_; replace BB := BB_; clear BB_; have Est12 := hst.symm; clear hst; have Pc0_8 := (uh P).cell 0 rfl; have Pc1_8 := (uh P).cell 1 rfl; have Pc2_8 := (uh P).cell 2 rfl; have Pc3_8 := (uh P).cell 3 rfl; have Pc4_8 := (uh P).cell 4 rfl; have Pc5_8 := (uh P).cell 5 rfl; have Pc6_8 := (uh P).cell 6 rfl
   go_wp2
   clear Qc0_4 Qc1_4 Qc2_4 Qc3_4 Qc4_4 Qc5_4 Qc6_4 Qfz4_5 Qcz4_5 Pc0_6 Pc1_6 Pc2_6 Pc3_6 Pc4_6 Pc5_6 Pc6_6 Qfz3_7 Qcz3_7 Pc0_8 Pc1_8 Pc2_8 Pc3_8 Pc4_8 Pc5_8 Pc6_8 EQ ERM Est11 Est12
   obtain ⟨REL, HREL⟩ : ∃ REL : Value → Value → World → Prop, Hid (REL = fun vd i wr => ∃ (k : Nat) (mv tv : Value), k ≤ b.mails.length ∧ i = .int .i64 k ∧ HasObj wr w.heap.size 50 [.string b.name, .int .i64 b.valid, .int .i64 b.next, .int .i64 b.mod, .slice am b.mails.length cm, .slice at1 b.tombs.length ct1, .int .i64 b.hor] ∧ HasObj wr (w1.heap.size) 50 [.string ⟨#[]⟩, .int .i64 0, .int .i64 0, .int .i64 0, .slice none 0 0, .slice none 0 0, .int .i64 0] ∧ HasObj wr (w3.heap.size) 50 [.string b.name, .int .i64 b.valid, .int .i64 b.next, .int .i64 b.mod, .slice amS b.mails.length cmS, .slice atS b.tombs.length ctS, .int .i64 b.hor] ∧ HasObj wr (w8.heap.size) 50 [.string b.name, .int .i64 b.valid, .int .i64 b.next, .int .i64 (b.mod + 1), mv, tv, .int .i64 b.hor] ∧ OwnBx w2.heap.size wr (.slice amS b.mails.length cmS) (.slice atS b.tombs.length ctS) b ∧ OwnMl w7.heap.size wr mv (leftTo8 b s k) ∧ OwnTb w7.heap.size wr tv (deadTo b s k) ∧ OwnR w.heap.size wr vd (uidsV (goneTo8 b s k)) ∧ Below w.heap.size w wr) := ⟨_, rfl⟩
   go_loopw [7, 9] (fun vd i wr => REL vd i wr) (fun _ i _ => b.mails.length - (intOf i).toNat)
   case atStart => rw [uh HREL]; exact ⟨0, _, _, Nat.zero_le _, rfl, uh P, uh R, uh S, uh Q, uh OS, by rw [leftTo8_zero]; exact g_based (uh RM) (by have sz1_ := uh sz1; have sz2_ := uh sz2; have sz3_ := uh sz3; have sz4_ := uh sz4; have sz5_ := uh sz5; have sz6_ := uh sz6; have sz7_ := uh sz7; have sz8_ := uh sz8; have sz9_ := uh sz9; have sz10_ := uh sz10; have sz11_ := uh sz11; have sz12_ := uh sz12; omega), uh RT, by rw [goneTo8_zero]; exact g_based (uh RD) (by have sz1_ := uh sz1; have sz2_ := uh sz2; have sz3_ := uh sz3; have sz4_ := uh sz4; have sz5_ := uh sz5; have sz6_ := uh sz6; have sz7_ := uh sz7; have sz8_ := uh sz8; have sz9_ := uh sz9; have sz10_ := uh sz10; have sz11_ := uh sz11; have sz12_ := uh sz12; omega), uh BB⟩
   have lOS : Hid (w.heap.size ≤ w2.heap.size) := by show _ ≤ _; have sz1_ := uh sz1; have sz2_ := uh sz2; have sz3_ := uh sz3; have sz4_ := uh sz4; have sz5_ := uh sz5; have sz6_ := uh sz6; have sz7_ := uh sz7; have sz8_ := uh sz8; have sz9_ := uh sz9; have sz10_ := uh sz10; have sz11_ := uh sz11; have sz12_ := uh sz12; omega
   clear P R S Q OS RM RT RD BB
   case round =>
    rw [uh HREL] at hrel
    obtain ⟨k, mv, tv, hk, rfl, oP, oR, oS, oQ, bS, rM, rT, rD, hbel⟩ := hrel
    obtain ⟨wo, hwo⟩ : ∃ wo, wo = wr := ⟨_, rfl⟩
    subst hwo
    obtain ⟨amv, cmv, rfl⟩ := g_shape rM
    obtain ⟨atv, ctv, rfl⟩ := g_shape rT
    by_cases hlt : k < b.mails.length
    ·have hgk : b.mails[k]? = some b.mails[k] := List.getElem?_eq_getElem hlt
     obtain ⟨gm, cpm, e, hgm, c0, c1, c2, c3⟩ := uh HMR wo hbel k _ hgk
     cases e
     have hff := uh FLR _ (List.getElem_mem hlt); have NG := hide (goneTo8_next (s := s) hgk); have NL := hide (leftTo8_next (s := s) hgk)
     have DY := hide (fun h => deadTo_yes (s := s) hgk h)
     have DN := hide (fun h => deadTo_no (s := s) hgk h)
     have LU := uh US k; have LL := leftTo8_len b s k; have LD := deadTo_len b s k
     generalize b.mails[k] = f at *
     obtain ⟨ff0, ff1⟩ := hff
     have LD := Nat.le_trans LD (Nat.add_le_add h40 h30)
     have i1 : (0 : Int) ≤ (k : Int) := by omega
     have i2 : (k : Int) < (b.mails.length : Int) := by omega
     have LMB : Hid (∀ x, Value.ownBlock (.slice amv (leftTo8 b s k).length cmv) = some x → x < wo.heap.size) := fun x hx => (rM.lt x hx).2
     have P := hide oP; have R := hide oR; have S := hide oS; have Q := hide oQ; have OS := hide bS; have RM := hide rM; have RT := hide rT; have RD := hide rD; have BB := hide hbel; clear oP oR oS oQ bS rM rT rD hbel hgk
     have hWQ : w7.heap.size ≤ wo.heap.size := Nat.le_trans lQQ (Nat.le_of_lt (uh Q).lt)
     have Pc0_9 := (uh P).cell 0 rfl; have Pc1_9 := (uh P).cell 1 rfl; have Pc2_9 := (uh P).cell 2 rfl; have Pc3_9 := (uh P).cell 3 rfl; have Pc4_9 := (uh P).cell 4 rfl; have Pc5_9 := (uh P).cell 5 rfl; have Pc6_9 := (uh P).cell 6 rfl
     obtain ⟨wr1, hM⟩ : ∃ X, X = wo.alloc (.cells ([.int .i64 f.uid, .int .i64 f.flags, .int .i64 f.mod, .string f.text] : List Value).toArray 100) := ⟨_, rfl⟩
     have Mx : HasObj wr1 wo.heap.size 100 [.int .i64 f.uid, .int .i64 f.flags, .int .i64 f.mod, .string f.text] := by rw [hM]; exact HasObj.new _ _ _
     have hbn : Below wo.heap.size wo wr1 := by rw [hM]; exact (Below.refl _ _).alloc (Nat.le_refl _) _
     have nePM : w.heap.size ≠ wo.heap.size := Nat.ne_of_lt (uh P).lt
     have neRM : w1.heap.size ≠ wo.heap.size := Nat.ne_of_lt (uh R).lt
     have neSM : w3.heap.size ≠ wo.heap.size := Nat.ne_of_lt (uh S).lt
     have neQM : w8.heap.size ≠ wo.heap.size := Nat.ne_of_lt (uh Q).lt
     have loM : w.heap.size ≤ wo.heap.size := (uh BB).size
     have EM := hM.symm; clear hM; replace P := hide ((uh P).ups hbn); replace R := hide ((uh R).ups hbn); replace S := hide ((uh S).ups hbn); replace Q := hide ((uh Q).ups hbn); replace OS := hide ((uh OS).up hbn); replace RM := hide ((uh RM).up hbn); replace RT := hide ((uh RT).up hbn); replace RD := hide ((uh RD).up hbn); have sz101 := hide (hbn.size); replace BB := hide (below_y (uh BB) hbn); clear hbn; have M := hide Mx; clear Mx; have Mc0_10 := (uh M).cell 0 rfl; have Mc1_10 := (uh M).cell 1 rfl; have Mc2_10 := (uh M).cell 2 rfl; have Mc3_10 := (uh M).cell 3 rfl; go_wp2_with fail; clear Pc0_9 Pc1_9 Pc2_9 Pc3_9 Pc4_9 Pc5_9 Pc6_9 Mc0_10 Mc1_10 Mc2_10 Mc3_10 EM
     refine (setHas_held s f.uid vs _ hsl ((uh HR).up (uh BB))).mono ?_
     rintro e wr2 ⟨rfl, hb⟩
     replace P := hide ((uh P).ups hb); replace R := hide ((uh R).ups hb); replace S := hide ((uh S).ups hb); replace Q := hide ((uh Q).ups hb); replace M := hide ((uh M).ups hb); replace OS := hide ((uh OS).up hb); replace RM := hide ((uh RM).up hb); replace RT := hide ((uh RT).up hb); replace RD := hide ((uh RD).up hb); have sz102 := hide (hb.size); replace BB := hide (below_y (uh BB) hb); clear hb; clear c0 c1 c2 c3
     cases hu : hasB s f.uid with
     | false =>
      have IG : Hid (isGone s f = false) := by show _ = _; unfold isGone; rw [hu]; rfl
      clear hu; have Qc0_11 := (uh Q).cell 0 rfl; have Qc1_11 := (uh Q).cell 1 rfl; have Qc2_11 := (uh Q).cell 2 rfl; have Qc3_11 := (uh Q).cell 3 rfl; have Qc4_11 := (uh Q).cell 4 rfl; have Qc5_11 := (uh Q).cell 5 rfl; have Qc6_11 := (uh Q).cell 6 rfl; have Mc0_12 := (uh M).cell 0 rfl; have Mc1_12 := (uh M).cell 1 rfl; have Mc2_12 := (uh M).cell 2 rfl; have Mc3_12 := (uh M).cell 3 rfl; have lw3 := (uh BB).size
      go_wp2_with (at_builtin; refine wpList_append_lies _ rfl _ _ 47 rfl w7.heap.size 100 iM _ 4 40 Tryz.underlying47 hM hM0 hM1 hM2 rfl (by decide) _ _ _ rfl (World.ownsRow.alloc (uh RM) _) ⟨wr2.heap.size, 0, none⟩ 1 1 (mlC f) rfl rfl (newsC _ _) ?c2 (by decide) ?c3 ?c4 ?c5 (wr2.heap.size + 1) (by simp) ?_)
      clear Qc0_11 Qc1_11 Qc2_11 Qc3_11 Qc4_11 Qc5_11 Qc6_11 Mc0_12 Mc1_12 Mc2_12 Mc3_12
      case c2 => intro u hu; simp [mlC, tbC, rgl] at hu; (try rcases hu with rfl | rfl | rfl | rfl) <;> (try rcases hu with rfl | rfl) <;> (try subst hu) <;> rfl
      case c3 => unfold maxLen; omega
      case c4 => omega
      case c5 => have q1_ := (uh BB).size; have sz101_ := uh sz101; have sz102_ := uh sz102; simp; omega
      intro gRM3 capRM3 wra3 hown hgr hat hlt_
      have oa := World.ownsRow.alloc (uh RM) (.cells ((mlC f) : List Value).toArray 100)
      have P_ := hide (((uh P).alloc (.cells ((mlC f) : List Value).toArray 100)).kept hgr (fun e => ((uh P).alloc (.cells ((mlC f) : List Value).toArray 100)).not_row (by decide) oa e.symm))
      have R_ := hide (((uh R).alloc (.cells ((mlC f) : List Value).toArray 100)).kept hgr (fun e => ((uh R).alloc (.cells ((mlC f) : List Value).toArray 100)).not_row (by decide) oa e.symm))
      have S_ := hide (((uh S).alloc (.cells ((mlC f) : List Value).toArray 100)).kept hgr (fun e => ((uh S).alloc (.cells ((mlC f) : List Value).toArray 100)).not_row (by decide) oa e.symm))
      have Q_ := hide (((uh Q).alloc (.cells ((mlC f) : List Value).toArray 100)).kept hgr (fun e => ((uh Q).alloc (.cells ((mlC f) : List Value).toArray 100)).not_row (by decide) oa e.symm))
      have M_ := hide (((uh M).alloc (.cells ((mlC f) : List Value).toArray 100)).kept hgr (fun e => by have := uh LMB _ e.symm; omega))
      have OS_ : Hid (OwnBx w2.heap.size wra3 (.slice amS b.mails.length cmS) (.slice atS b.tombs.length ctS) b) := ⟨g_aside (World.ownsRow.alloc (uh OS).1 (.cells ((mlC f) : List Value).toArray 100)) hgr (fun z hz hz2 => by have q1_ := (World.ownsRow.lt oa z hz).1; have q2_ := uh SEP z (.inl hz2); omega), g_aside (World.ownsRow.alloc (uh OS).2 (.cells ((mlC f) : List Value).toArray 100)) hgr (fun z hz hz2 => by have q1_ := (World.ownsRow.lt oa z hz).1; have q2_ := uh SEP z (.inr hz2); omega)⟩
      have RT_ : Hid (OwnTb w7.heap.size wra3 (.slice atv (deadTo b s k).length ctv) (deadTo b s k)) := g_aside (World.ownsRow.alloc (uh RT) (.cells ((mlC f) : List Value).toArray 100)) hgr (fun x hx => rows_apart (oa) (World.ownsRow.alloc (uh RT) (.cells ((mlC f) : List Value).toArray 100)) (by decide) x hx)
      have RD_ : Hid (OwnR w.heap.size wra3 (u7) (uidsV (goneTo8 b s k))) := g_aside (World.ownsRow.alloc (uh RD) (.cells ((mlC f) : List Value).toArray 100)) hgr (fun x hx => rows_apart (oa) (World.ownsRow.alloc (uh RD) (.cells ((mlC f) : List Value).toArray 100)) (by decide) x hx)
      have RM_ : Hid (OwnMl w7.heap.size wra3 (.slice (some ⟨gRM3, 0, none⟩) ((leftTo8 b s k).length + 1) capRM3) (leftTo8 b s k ++ [f])) := by exact OwnMl.snoc hown
      have BB_ : Hid (Below w.heap.size w wra3) := ((uh BB).alloc (uh BB).size _).grown hgr (by have q1_ := (uh BB).size; simp; omega) (fun b hb => by have q2_ := (World.ownsRow.lt (uh RM) b hb).1; have q1_ := (uh BB).size; have sz101_ := uh sz101; have sz102_ := uh sz102; omega)
      have sz103 : Hid (wr2.heap.size ≤ wra3.heap.size) := by have q3_ := hgr.size; simp at q3_; show _ ≤ _; omega
      replace P := P_; clear P_; replace R := R_; clear R_; replace S := S_; clear S_; replace Q := Q_; clear Q_; replace M := M_; clear M_; replace OS := OS_; clear OS_; replace RM := RM_; clear RM_; replace RT := RT_; clear RT_; replace RD := RD_; clear RD_; replace BB := BB_; clear BB_; clear hown hgr oa lw3 hat hlt_; clear M; have Qc0_13 := (uh Q).cell 0 rfl; have Qc1_13 := (uh Q).cell 1 rfl; have Qc2_13 := (uh Q).cell 2 rfl; have Qc3_13 := (uh Q).cell 3 rfl; have Qc4_13 := (uh Q).cell 4 rfl; have Qc5_13 := (uh Q).cell 5 rfl; have Qc6_13 := (uh Q).cell 6 rfl; have Qfz4_14 := (uh Q).frozen 4; have Qcz4_14 := (uh Q).cell 4 rfl
      obtain ⟨wra4, hst⟩ : ∃ X, X = wra3.setCell ⟨w8.heap.size, 4, none⟩ ((.slice (some ⟨gRM3, 0, none⟩) ((leftTo8 b s k).length + 1) capRM3)) := ⟨_, rfl⟩
      have OS_ : Hid (OwnBx w2.heap.size wra4 (.slice amS b.mails.length cmS) (.slice atS b.tombs.length ctS) b) := by show OwnBx _ _ _ _ _; rw [hst]; exact ⟨(uh Q).row (j := 4) (by decide) (uh OS).1 _, (uh Q).row (j := 4) (by decide) (uh OS).2 _⟩
      have RM_ : Hid (OwnMl w7.heap.size wra4 ((.slice (some ⟨gRM3, 0, none⟩) ((leftTo8 b s k).length + 1) capRM3)) (leftTo8 b s k ++ [f])) := by show OwnMl _ _ _ _; rw [hst]; exact (uh Q).row (j := 4) (by decide) (uh RM) _
      have RT_ : Hid (OwnTb w7.heap.size wra4 (.slice atv (deadTo b s k).length ctv) (deadTo b s k)) := by show OwnTb _ _ _ _; rw [hst]; exact (uh Q).row (j := 4) (by decide) (uh RT) _
      have RD_ : Hid (OwnR w.heap.size wra4 (u7) (uidsV (goneTo8 b s k))) := by show OwnR _ _ _ _; rw [hst]; exact (uh Q).row (j := 4) (by decide) (uh RD) _
      have P_ := hide ((uh P).other (j := 4) nePQ ((.slice (some ⟨gRM3, 0, none⟩) ((leftTo8 b s k).length + 1) capRM3)))
      rw [← hst] at P_
      have R_ := hide ((uh R).other (j := 4) neRQ ((.slice (some ⟨gRM3, 0, none⟩) ((leftTo8 b s k).length + 1) capRM3)))
      rw [← hst] at R_
      have S_ := hide ((uh S).other (j := 4) neSQ ((.slice (some ⟨gRM3, 0, none⟩) ((leftTo8 b s k).length + 1) capRM3)))
      rw [← hst] at S_
      have Q_ := hide ((uh Q).set 4 ((.slice (some ⟨gRM3, 0, none⟩) ((leftTo8 b s k).length + 1) capRM3)))
      rw [← hst] at Q_
      have BB_ := hide ((uh BB).setCell (p := ⟨w8.heap.size, 4, none⟩) (show w.heap.size ≤ w8.heap.size from loQ) ((.slice (some ⟨gRM3, 0, none⟩) ((leftTo8 b s k).length + 1) capRM3)))
      rw [← hst] at BB_
      have sz104 : Hid (wra3.heap.size ≤ wra4.heap.size) := by show _ ≤ _; rw [hst]; simp
      replace OS := OS_; clear OS_; replace RM := RM_; clear RM_; replace RT := RT_; clear RT_; replace RD := RD_; clear RD_; replace P := P_; clear P_; replace R := R_; clear R_; replace S := S_; clear S_; replace Q := Q_; clear Q_; replace BB := BB_; clear BB_; have Est104 := hst.symm; clear hst
      go_wp2
      go_roundw
      case rel =>
       rw [uh HREL]
       refine ⟨k + 1, _, _, by omega, by go_num, uh P, uh R, uh S, uh Q, uh OS, ?_, ?_, ?_, uh BB⟩
       ·rw [uh NL, if_neg (by rw [uh IG]; decide)]; exact uh RM
       ·rw [uh DN (uh IG)]; exact uh RT
       ·rw [uh NG, if_neg (by rw [uh IG]; decide)]; exact uh RD
      case measure => simp [intOf]; omega
     | true =>
      have Mc0_11 := (uh M).cell 0 rfl; have Mc1_11 := (uh M).cell 1 rfl; have Mc2_11 := (uh M).cell 2 rfl; have Mc3_11 := (uh M).cell 3 rfl; go_wp2_with fail; clear Mc0_11 Mc1_11 Mc2_11 Mc3_11
      refine (l06And_any f.flags 8 _ ff0 ff1 (by decide) (by decide)).mono ?_
      rintro e wr3 ⟨rfl, hw⟩
      subst wr3
      cases hv : decide (0 < andTo f.flags 8 5) with
      | false =>
       have IG : Hid (isGone s f = false) := by show _ = _; unfold isGone; rw [hu, hv]; rfl
       clear hu; have Qc0_12 := (uh Q).cell 0 rfl; have Qc1_12 := (uh Q).cell 1 rfl; have Qc2_12 := (uh Q).cell 2 rfl; have Qc3_12 := (uh Q).cell 3 rfl; have Qc4_12 := (uh Q).cell 4 rfl; have Qc5_12 := (uh Q).cell 5 rfl; have Qc6_12 := (uh Q).cell 6 rfl; have Mc0_13 := (uh M).cell 0 rfl; have Mc1_13 := (uh M).cell 1 rfl; have Mc2_13 := (uh M).cell 2 rfl; have Mc3_13 := (uh M).cell 3 rfl; have lw4 := (uh BB).size
       go_wp2_with (at_builtin; refine wpList_append_lies _ rfl _ _ 47 rfl w7.heap.size 100 iM _ 4 40 Tryz.underlying47 hM hM0 hM1 hM2 rfl (by decide) _ _ _ rfl (World.ownsRow.alloc (uh RM) _) ⟨wr2.heap.size, 0, none⟩ 1 1 (mlC f) rfl rfl (newsC _ _) ?c2 (by decide) ?c3 ?c4 ?c5 (wr2.heap.size + 1) (by simp) ?_)
       clear Qc0_12 Qc1_12 Qc2_12 Qc3_12 Qc4_12 Qc5_12 Qc6_12 Mc0_13 Mc1_13 Mc2_13 Mc3_13
       case c2 => intro u hu; simp [mlC, tbC, rgl] at hu; (try rcases hu with rfl | rfl | rfl | rfl) <;> (try rcases hu with rfl | rfl) <;> (try subst hu) <;> rfl
       case c3 => unfold maxLen; omega
       case c4 => omega
       case c5 => have q1_ := (uh BB).size; have sz101_ := uh sz101; have sz102_ := uh sz102; simp; omega
       intro gRM4 capRM4 wrb4 hown hgr hat hlt_
       have oa := World.ownsRow.alloc (uh RM) (.cells ((mlC f) : List Value).toArray 100)
       have P_ := hide (((uh P).alloc (.cells ((mlC f) : List Value).toArray 100)).kept hgr (fun e => ((uh P).alloc (.cells ((mlC f) : List Value).toArray 100)).not_row (by decide) oa e.symm))
       have R_ := hide (((uh R).alloc (.cells ((mlC f) : List Value).toArray 100)).kept hgr (fun e => ((uh R).alloc (.cells ((mlC f) : List Value).toArray 100)).not_row (by decide) oa e.symm))
       have S_ := hide (((uh S).alloc (.cells ((mlC f) : List Value).toArray 100)).kept hgr (fun e => ((uh S).alloc (.cells ((mlC f) : List Value).toArray 100)).not_row (by decide) oa e.symm))
       have Q_ := hide (((uh Q).alloc (.cells ((mlC f) : List Value).toArray 100)).kept hgr (fun e => ((uh Q).alloc (.cells ((mlC f) : List Value).toArray 100)).not_row (by decide) oa e.symm))
       have M_ := hide (((uh M).alloc (.cells ((mlC f) : List Value).toArray 100)).kept hgr (fun e => by have := uh LMB _ e.symm; omega))
       have OS_ : Hid (OwnBx w2.heap.size wrb4 (.slice amS b.mails.length cmS) (.slice atS b.tombs.length ctS) b) := ⟨g_aside (World.ownsRow.alloc (uh OS).1 (.cells ((mlC f) : List Value).toArray 100)) hgr (fun z hz hz2 => by have q1_ := (World.ownsRow.lt oa z hz).1; have q2_ := uh SEP z (.inl hz2); omega), g_aside (World.ownsRow.alloc (uh OS).2 (.cells ((mlC f) : List Value).toArray 100)) hgr (fun z hz hz2 => by have q1_ := (World.ownsRow.lt oa z hz).1; have q2_ := uh SEP z (.inr hz2); omega)⟩
       have RT_ : Hid (OwnTb w7.heap.size wrb4 (.slice atv (deadTo b s k).length ctv) (deadTo b s k)) := g_aside (World.ownsRow.alloc (uh RT) (.cells ((mlC f) : List Value).toArray 100)) hgr (fun x hx => rows_apart (oa) (World.ownsRow.alloc (uh RT) (.cells ((mlC f) : List Value).toArray 100)) (by decide) x hx)
       have RD_ : Hid (OwnR w.heap.size wrb4 (u7) (uidsV (goneTo8 b s k))) := g_aside (World.ownsRow.alloc (uh RD) (.cells ((mlC f) : List Value).toArray 100)) hgr (fun x hx => rows_apart (oa) (World.ownsRow.alloc (uh RD) (.cells ((mlC f) : List Value).toArray 100)) (by decide) x hx)
       have RM_ : Hid (OwnMl w7.heap.size wrb4 (.slice (some ⟨gRM4, 0, none⟩) ((leftTo8 b s k).length + 1) capRM4) (leftTo8 b s k ++ [f])) := by exact OwnMl.snoc hown
       have BB_ : Hid (Below w.heap.size w wrb4) := ((uh BB).alloc (uh BB).size _).grown hgr (by have q1_ := (uh BB).size; simp; omega) (fun b hb => by have q2_ := (World.ownsRow.lt (uh RM) b hb).1; have q1_ := (uh BB).size; have sz101_ := uh sz101; have sz102_ := uh sz102; omega)
       have sz103 : Hid (wr2.heap.size ≤ wrb4.heap.size) := by have q3_ := hgr.size; simp at q3_; show _ ≤ _; omega
       replace P := P_; clear P_; replace R := R_; clear R_; replace S := S_; clear S_; replace Q := Q_; clear Q_; replace M := M_; clear M_; replace OS := OS_; clear OS_; replace RM := RM_; clear RM_; replace RT := RT_; clear RT_; replace RD := RD_; clear RD_; replace BB := BB_; clear BB_; clear hown hgr oa lw4 hat hlt_; clear M; have Qc0_14 := (uh Q).cell 0 rfl; have Qc1_14 := (uh Q).cell 1 rfl; have Qc2_14 := (uh Q).cell 2 rfl; have Qc3_14 := (uh Q).cell 3 rfl; have Qc4_14 := (uh Q).cell 4 rfl; have Qc5_14 := (uh Q).cell 5 rfl; have Qc6_14 := (uh Q).cell 6 rfl; have Qfz4_15 := (uh Q).frozen 4; have Qcz4_15 := (uh Q).cell 4 rfl
       obtain ⟨wrb5, hst⟩ : ∃ X, X = wrb4.setCell ⟨w8.heap.size, 4, none⟩ ((.slice (some ⟨gRM4, 0, none⟩) ((leftTo8 b s k).length + 1) capRM4)) := ⟨_, rfl⟩
       have OS_ : Hid (OwnBx w2.heap.size wrb5 (.slice amS b.mails.length cmS) (.slice atS b.tombs.length ctS) b) := by show OwnBx _ _ _ _ _; rw [hst]; exact ⟨(uh Q).row (j := 4) (by decide) (uh OS).1 _, (uh Q).row (j := 4) (by decide) (uh OS).2 _⟩
       have RM_ : Hid (OwnMl w7.heap.size wrb5 ((.slice (some ⟨gRM4, 0, none⟩) ((leftTo8 b s k).length + 1) capRM4)) (leftTo8 b s k ++ [f])) := by show OwnMl _ _ _ _; rw [hst]; exact (uh Q).row (j := 4) (by decide) (uh RM) _
       have RT_ : Hid (OwnTb w7.heap.size wrb5 (.slice atv (deadTo b s k).length ctv) (deadTo b s k)) := by show OwnTb _ _ _ _; rw [hst]; exact (uh Q).row (j := 4) (by decide) (uh RT) _
       have RD_ : Hid (OwnR w.heap.size wrb5 (u7) (uidsV (goneTo8 b s k))) := by show OwnR _ _ _ _; rw [hst]; exact (uh Q).row (j := 4) (by decide) (uh RD) _
       have P_ := hide ((uh P).other (j := 4) nePQ ((.slice (some ⟨gRM4, 0, none⟩) ((leftTo8 b s k).length + 1) capRM4)))
       rw [← hst] at P_
       have R_ := hide ((uh R).other (j := 4) neRQ ((.slice (some ⟨gRM4, 0, none⟩) ((leftTo8 b s k).length + 1) capRM4)))
       rw [← hst] at R_
       have S_ := hide ((uh S).other (j := 4) neSQ ((.slice (some ⟨gRM4, 0, none⟩) ((leftTo8 b s k).length + 1) capRM4)))
       rw [← hst] at S_
       have Q_ := hide ((uh Q).set 4 ((.slice (some ⟨gRM4, 0, none⟩) ((leftTo8 b s k).length + 1) capRM4)))
       rw [← hst] at Q_
       have BB_ := hide ((uh BB).setCell (p := ⟨w8.heap.size, 4, none⟩) (show w.heap.size ≤ w8.heap.size from loQ) ((.slice (some ⟨gRM4, 0, none⟩) ((leftTo8 b s k).length + 1) capRM4)))
       rw [← hst] at BB_
       have sz104 : Hid (wrb4.heap.size ≤ wrb5.heap.size) := by show _ ≤ _; rw [hst]; simp
       replace OS := OS_; clear OS_; replace RM := RM_; clear RM_; replace RT := RT_; clear RT_; replace RD := RD_; clear RD_; replace P := P_; clear P_; replace R := R_; clear R_; replace S := S_; clear S_; replace Q := Q_; clear Q_; replace BB := BB_; clear BB_; have Est104 := hst.symm; clear hst
       go_wp2
       go_roundw
       case rel =>
        rw [uh HREL]
        refine ⟨k + 1, _, _, by omega, by go_num, uh P, uh R, uh S, uh Q, uh OS, ?_, ?_, ?_, uh BB⟩
        ·rw [uh NL, if_neg (by rw [uh IG]; decide)]; exact uh RM
        ·rw [uh DN (uh IG)]; exact uh RT
        ·rw [uh NG, if_neg (by rw [uh IG]; decide)]; exact uh RD
       case measure => simp [intOf]; omega
      | true =>
       have IG : Hid (isGone s f = true) := by show _ = _; unfold isGone; rw [hu, hv]; rfl
       clear hu; have Mc0_12 := (uh M).cell 0 rfl; have Mc1_12 := (uh M).cell 1 rfl; have Mc2_12 := (uh M).cell 2 rfl; have Mc3_12 := (uh M).cell 3 rfl
       have szD : Hid (w.heap.size ≤ wr2.heap.size) := (uh BB).size
       go_wp2_with fail; clear Mc0_12 Mc1_12 Mc2_12 Mc3_12
       refine (setAdd_held (uidsV (goneTo8 b s k)) f.uid _ _ _ LU (uh RD)).mono ?_
       rintro e wr4 ⟨vv1, rfl, oo, hb⟩
       clear RD; replace P := hide ((uh P).ups hb); replace R := hide ((uh R).ups hb); replace S := hide ((uh S).ups hb); replace Q := hide ((uh Q).ups hb); replace M := hide ((uh M).ups hb); replace OS := hide ((uh OS).up hb); replace RM := hide ((uh RM).up hb); replace RT := hide ((uh RT).up hb); have sz103 := hide (hb.size); replace BB := hide (below_y (uh BB) hb); clear hb; have RD := hide oo; clear oo; clear hv; have Qc0_13 := (uh Q).cell 0 rfl; have Qc1_13 := (uh Q).cell 1 rfl; have Qc2_13 := (uh Q).cell 2 rfl; have Qc3_13 := (uh Q).cell 3 rfl; have Qc4_13 := (uh Q).cell 4 rfl; have Qc5_13 := (uh Q).cell 5 rfl; have Qc6_13 := (uh Q).cell 6 rfl; have Mc0_14 := (uh M).cell 0 rfl; have Mc1_14 := (uh M).cell 1 rfl; have Mc2_14 := (uh M).cell 2 rfl; have Mc3_14 := (uh M).cell 3 rfl; have lw5 := (uh BB).size
       go_wp2_with (at_builtin; refine wpList_append_lies _ rfl _ _ 48 rfl w7.heap.size 117 iT _ 2 16 Tryz.underlying48 hT hT0 hT1 hT2 rfl (by decide) _ _ _ rfl (World.ownsRow.alloc (uh RT) _) ⟨wr4.heap.size, 0, none⟩ 1 1 (tbC (⟨f.uid, b.mod + 1⟩ : Tb)) rfl rfl (newsC _ _) ?c2 (by decide) ?c3 ?c4 ?c5 (wr4.heap.size + 1) (by simp) ?_)
       clear Qc0_13 Qc1_13 Qc2_13 Qc3_13 Qc4_13 Qc5_13 Qc6_13 Mc0_14 Mc1_14 Mc2_14 Mc3_14
       case c2 => intro u hu; simp [mlC, tbC, rgl] at hu; (try rcases hu with rfl | rfl | rfl | rfl) <;> (try rcases hu with rfl | rfl) <;> (try subst hu) <;> rfl
       case c3 => unfold maxLen; omega
       case c4 => omega
       case c5 => have q1_ := (uh BB).size; have sz101_ := uh sz101; have sz102_ := uh sz102; have sz103_ := uh sz103; simp; omega
       intro gRT5 capRT5 wr5 hown hgr hat hlt_
       have oa := World.ownsRow.alloc (uh RT) (.cells ((tbC (⟨f.uid, b.mod + 1⟩ : Tb)) : List Value).toArray 117)
       have P_ := hide (((uh P).alloc (.cells ((tbC (⟨f.uid, b.mod + 1⟩ : Tb)) : List Value).toArray 117)).kept hgr (fun e => ((uh P).alloc (.cells ((tbC (⟨f.uid, b.mod + 1⟩ : Tb)) : List Value).toArray 117)).not_row (by decide) oa e.symm))
       have R_ := hide (((uh R).alloc (.cells ((tbC (⟨f.uid, b.mod + 1⟩ : Tb)) : List Value).toArray 117)).kept hgr (fun e => ((uh R).alloc (.cells ((tbC (⟨f.uid, b.mod + 1⟩ : Tb)) : List Value).toArray 117)).not_row (by decide) oa e.symm))
       have S_ := hide (((uh S).alloc (.cells ((tbC (⟨f.uid, b.mod + 1⟩ : Tb)) : List Value).toArray 117)).kept hgr (fun e => ((uh S).alloc (.cells ((tbC (⟨f.uid, b.mod + 1⟩ : Tb)) : List Value).toArray 117)).not_row (by decide) oa e.symm))
       have Q_ := hide (((uh Q).alloc (.cells ((tbC (⟨f.uid, b.mod + 1⟩ : Tb)) : List Value).toArray 117)).kept hgr (fun e => ((uh Q).alloc (.cells ((tbC (⟨f.uid, b.mod + 1⟩ : Tb)) : List Value).toArray 117)).not_row (by decide) oa e.symm))
       have M_ := hide (((uh M).alloc (.cells ((tbC (⟨f.uid, b.mod + 1⟩ : Tb)) : List Value).toArray 117)).kept hgr (fun e => ((uh M).alloc (.cells ((tbC (⟨f.uid, b.mod + 1⟩ : Tb)) : List Value).toArray 117)).not_row (by decide) oa e.symm))
       have OS_ : Hid (OwnBx w2.heap.size wr5 (.slice amS b.mails.length cmS) (.slice atS b.tombs.length ctS) b) := ⟨g_aside (World.ownsRow.alloc (uh OS).1 (.cells ((tbC (⟨f.uid, b.mod + 1⟩ : Tb)) : List Value).toArray 117)) hgr (fun z hz hz2 => by have q1_ := (World.ownsRow.lt oa z hz).1; have q2_ := uh SEP z (.inl hz2); omega), g_aside (World.ownsRow.alloc (uh OS).2 (.cells ((tbC (⟨f.uid, b.mod + 1⟩ : Tb)) : List Value).toArray 117)) hgr (fun z hz hz2 => by have q1_ := (World.ownsRow.lt oa z hz).1; have q2_ := uh SEP z (.inr hz2); omega)⟩
       have RM_ : Hid (OwnMl w7.heap.size wr5 (.slice amv (leftTo8 b s k).length cmv) (leftTo8 b s k)) := g_aside (World.ownsRow.alloc (uh RM) (.cells ((tbC (⟨f.uid, b.mod + 1⟩ : Tb)) : List Value).toArray 117)) hgr (fun x hx => rows_apart (oa) (World.ownsRow.alloc (uh RM) (.cells ((tbC (⟨f.uid, b.mod + 1⟩ : Tb)) : List Value).toArray 117)) (by decide) x hx)
       have RD_ : Hid (OwnR wr2.heap.size wr5 (vv1) (addU (uidsV (goneTo8 b s k)) f.uid)) := g_aside (World.ownsRow.alloc (uh RD) (.cells ((tbC (⟨f.uid, b.mod + 1⟩ : Tb)) : List Value).toArray 117)) hgr (fun x hx => rows_apart (oa) (World.ownsRow.alloc (uh RD) (.cells ((tbC (⟨f.uid, b.mod + 1⟩ : Tb)) : List Value).toArray 117)) (by decide) x hx)
       have RT_ : Hid (OwnTb w7.heap.size wr5 (.slice (some ⟨gRT5, 0, none⟩) ((deadTo b s k).length + 1) capRT5) (deadTo b s k ++ [⟨f.uid, b.mod + 1⟩])) := by exact OwnTb.snoc hown
       have BB_ : Hid (Below w.heap.size w wr5) := ((uh BB).alloc (uh BB).size _).grown hgr (by have q1_ := (uh BB).size; simp; omega) (fun b hb => by have q2_ := (World.ownsRow.lt (uh RT) b hb).1; have q1_ := (uh BB).size; have sz101_ := uh sz101; have sz102_ := uh sz102; have sz103_ := uh sz103; omega)
       have sz104 : Hid (wr4.heap.size ≤ wr5.heap.size) := by have q3_ := hgr.size; simp at q3_; show _ ≤ _; omega
       replace P := P_; clear P_; replace R := R_; clear R_; replace S := S_; clear S_; replace Q := Q_; clear Q_; replace M := M_; clear M_; replace OS := OS_; clear OS_; replace RM := RM_; clear RM_; replace RT := RT_; clear RT_; replace RD := RD_; clear RD_; replace BB := BB_; clear BB_; clear hown hgr oa lw5 hat hlt_; clear M; have Qc0_15 := (uh Q).cell 0 rfl; have Qc1_15 := (uh Q).cell 1 rfl; have Qc2_15 := (uh Q).cell 2 rfl; have Qc3_15 := (uh Q).cell 3 rfl; have Qc4_15 := (uh Q).cell 4 rfl; have Qc5_15 := (uh Q).cell 5 rfl; have Qc6_15 := (uh Q).cell 6 rfl; have Qfz5_16 := (uh Q).frozen 5; have Qcz5_16 := (uh Q).cell 5 rfl
       obtain ⟨wr6, hst⟩ : ∃ X, X = wr5.setCell ⟨w8.heap.size, 5, none⟩ ((.slice (some ⟨gRT5, 0, none⟩) ((deadTo b s k).length + 1) capRT5)) := ⟨_, rfl⟩
       have OS_ : Hid (OwnBx w2.heap.size wr6 (.slice amS b.mails.length cmS) (.slice atS b.tombs.length ctS) b) := by show OwnBx _ _ _ _ _; rw [hst]; exact ⟨(uh Q).row (j := 5) (by decide) (uh OS).1 _, (uh Q).row (j := 5) (by decide) (uh OS).2 _⟩
       have RM_ : Hid (OwnMl w7.heap.size wr6 (.slice amv (leftTo8 b s k).length cmv) (leftTo8 b s k)) := by show OwnMl _ _ _ _; rw [hst]; exact (uh Q).row (j := 5) (by decide) (uh RM) _
       have RT_ : Hid (OwnTb w7.heap.size wr6 ((.slice (some ⟨gRT5, 0, none⟩) ((deadTo b s k).length + 1) capRT5)) (deadTo b s k ++ [⟨f.uid, b.mod + 1⟩])) := by show OwnTb _ _ _ _; rw [hst]; exact (uh Q).row (j := 5) (by decide) (uh RT) _
       have RD_ : Hid (OwnR wr2.heap.size wr6 (vv1) (addU (uidsV (goneTo8 b s k)) f.uid)) := by show OwnR _ _ _ _; rw [hst]; exact (uh Q).row (j := 5) (by decide) (uh RD) _
       have P_ := hide ((uh P).other (j := 5) nePQ ((.slice (some ⟨gRT5, 0, none⟩) ((deadTo b s k).length + 1) capRT5)))
       rw [← hst] at P_
       have R_ := hide ((uh R).other (j := 5) neRQ ((.slice (some ⟨gRT5, 0, none⟩) ((deadTo b s k).length + 1) capRT5)))
       rw [← hst] at R_
       have S_ := hide ((uh S).other (j := 5) neSQ ((.slice (some ⟨gRT5, 0, none⟩) ((deadTo b s k).length + 1) capRT5)))
       rw [← hst] at S_
       have Q_ := hide ((uh Q).set 5 ((.slice (some ⟨gRT5, 0, none⟩) ((deadTo b s k).length + 1) capRT5)))
       rw [← hst] at Q_
       have BB_ := hide ((uh BB).setCell (p := ⟨w8.heap.size, 5, none⟩) (show w.heap.size ≤ w8.heap.size from loQ) ((.slice (some ⟨gRT5, 0, none⟩) ((deadTo b s k).length + 1) capRT5)))
       rw [← hst] at BB_
       have sz105 : Hid (wr5.heap.size ≤ wr6.heap.size) := by show _ ≤ _; rw [hst]; simp
       replace OS := OS_; clear OS_; replace RM := RM_; clear RM_; replace RT := RT_; clear RT_; replace RD := RD_; clear RD_; replace P := P_; clear P_; replace R := R_; clear R_; replace S := S_; clear S_; replace Q := Q_; clear Q_; replace BB := BB_; clear BB_; have Est105 := hst.symm; clear hst
       go_wp2
       go_roundw
       case rel =>
        rw [uh HREL]
        refine ⟨k + 1, _, _, by omega, by go_num, uh P, uh R, uh S, uh Q, uh OS, ?_, ?_, ?_, uh BB⟩
        ·rw [uh NL, if_pos (uh IG)]; exact uh RM
        ·rw [uh DY (uh IG)]; exact uh RT
        ·rw [uh NG, if_pos (uh IG)]; exact by rw [uidsV_snoc]; exact g_based (uh RD) (by have q9 := (uh BB).size; have q8 := uh szD; omega)
       case measure => simp [intOf]; omega
    ·obtain rfl : k = b.mails.length := by omega
     rw [goneTo8_all] at rD
     obtain ⟨adv, cdv, rfl⟩ := g_shape rD
     have LD := Nat.le_trans (deadTo_len b s b.mails.length) (Nat.add_le_add h40 h30)
     obtain ⟨TR, hTR⟩ : ∃ x, x = Plain.trimmed (deadTo b s b.mails.length) b.hor := ⟨_, rfl⟩
     have ETZ : Hid (expBox b s = { b with mails := leftM s b.mails, mod := b.mod + 1, tombs := TR.1, hor := TR.2 }) := by show _ = _; unfold expBox; rw [hTR, deadTo_all]
     have TRE := hide hTR; clear hTR
     generalize hdd : deadTo b s b.mails.length = dd at *
     have hdd := hide hdd
     rw [leftTo8_all] at rM oQ
     have LLM := leftM_len s b.mails; have P := hide oP; have R := hide oR; have S := hide oS; have Q := hide oQ; have OS := hide bS; have RM := hide rM; have RT := hide rT; have RD := hide rD; have BB := hide hbel; clear oP oR oS oQ bS rM rT rD hbel
     by_cases hn : (uidsV (goneM s b.mails)).length = 0
     ·have NE : Hid (goneM s b.mails = []) := (uh UE).1 hn
      have UN : Hid (uidsV (goneM s b.mails) = []) := List.length_eq_zero_iff.1 hn
      have dn : (((uidsV (goneM s b.mails)).length : Int) == 0) = true := by rw [hn]; rfl
      clear hn; have Pc0_9 := (uh P).cell 0 rfl; have Pc1_9 := (uh P).cell 1 rfl; have Pc2_9 := (uh P).cell 2 rfl; have Pc3_9 := (uh P).cell 3 rfl; have Pc4_9 := (uh P).cell 4 rfl; have Pc5_9 := (uh P).cell 5 rfl; have Pc6_9 := (uh P).cell 6 rfl; have Sc0_10 := (uh S).cell 0 rfl; have Sc1_10 := (uh S).cell 1 rfl; have Sc2_10 := (uh S).cell 2 rfl; have Sc3_10 := (uh S).cell 3 rfl; have Sc4_10 := (uh S).cell 4 rfl; have Sc5_10 := (uh S).cell 5 rfl; have Sc6_10 := (uh S).cell 6 rfl; have V := hide (uh V2 (uh NE)); have Rf0 := (uh R).frozen 0; have Rf1 := (uh R).frozen 1; have Rf2 := (uh R).frozen 2; have Rf3 := (uh R).frozen 3; have Rf4 := (uh R).frozen 4; have Rf5 := (uh R).frozen 5; have Rf6 := (uh R).frozen 6; have Re0 := (uh R).cell 0 rfl; have Re1 := (uh R).cell 1 rfl; have Re2 := (uh R).cell 2 rfl; have Re3 := (uh R).cell 3 rfl; have Re4 := (uh R).cell 4 rfl; have Re5 := (uh R).cell 5 rfl; have Re6 := (uh R).cell 6 rfl; have F := hide (fill7 (uh R) (.string b.name) (.int .i64 b.valid) (.int .i64 b.next) (.int .i64 b.mod) (.slice amS b.mails.length cmS) (.slice atS b.tombs.length ctS) (.int .i64 b.hor))
      obtain ⟨U, hU⟩ : ∃ U, U = (((((((wo.setCell ⟨w1.heap.size, 0, none⟩ (.string b.name)).setCell ⟨w1.heap.size, 1, none⟩ (.int .i64 b.valid)).setCell ⟨w1.heap.size, 2, none⟩ (.int .i64 b.next)).setCell ⟨w1.heap.size, 3, none⟩ (.int .i64 b.mod)).setCell ⟨w1.heap.size, 4, none⟩ (.slice amS b.mails.length cmS)).setCell ⟨w1.heap.size, 5, none⟩ (.slice atS b.tombs.length ctS)).setCell ⟨w1.heap.size, 6, none⟩ (.int .i64 b.hor)) := ⟨_, rfl⟩
      have F9 := uh F
      rw [← hU] at F9
      have EU := hU.symm; clear F hU; have v0 := F9.obj.cell 0 rfl; have v1 := F9.obj.cell 1 rfl; have v2 := F9.obj.cell 2 rfl; have v3 := F9.obj.cell 3 rfl; have v4 := F9.obj.cell 4 rfl; have v5 := F9.obj.cell 5 rfl; have v6 := F9.obj.cell 6 rfl; have F := hide F9; clear F9
      go_wp2_with (refine bodyPost_ret (by simp [results, Tryz.results22, go_sem, v0, v1, v2, v3, v4, v5, v6]; try rfl) rfl ?_)
      clear EU; have F := uh F
      refine ⟨.slice amS b.mails.length cmS, .slice atS b.tombs.length ctS, .slice adv (uidsV (goneM s b.mails)).length cdv, by rw [uh V], ?_, ?_, F.below loR (uh BB)⟩
      ·rw [uh V]; exact ⟨g_based (F.row (by decide) (uh OS).1) (by have lo9_ := uh lOS; have lo8_ := (uh BB).size; omega), g_based (F.row (by decide) (uh OS).2) (by have lo9_ := uh lOS; have lo8_ := (uh BB).size; omega)⟩
      ·rw [uh V]; exact (by have h9 := F.row (by decide) (uh RD); rw [uh UN] at h9 ⊢; exact h9)
     ·have NE : Hid (goneM s b.mails ≠ []) := fun x => hn ((uh UE).2 x)
      have dn : (((uidsV (goneM s b.mails)).length : Int) == 0) = false := beq_eq_false_iff_ne.2 (by omega)
      clear hn; have Pc0_9 := (uh P).cell 0 rfl; have Pc1_9 := (uh P).cell 1 rfl; have Pc2_9 := (uh P).cell 2 rfl; have Pc3_9 := (uh P).cell 3 rfl; have Pc4_9 := (uh P).cell 4 rfl; have Pc5_9 := (uh P).cell 5 rfl; have Pc6_9 := (uh P).cell 6 rfl; have Qc0_10 := (uh Q).cell 0 rfl; have Qc1_10 := (uh Q).cell 1 rfl; have Qc2_10 := (uh Q).cell 2 rfl; have Qc3_10 := (uh Q).cell 3 rfl; have Qc4_10 := (uh Q).cell 4 rfl; have Qc5_10 := (uh Q).cell 5 rfl; have Qc6_10 := (uh Q).cell 6 rfl
      go_wp2
      clear Pc0_9 Pc1_9 Pc2_9 Pc3_9 Pc4_9 Pc5_9 Pc6_9 Qc0_10 Qc1_10 Qc2_10 Qc3_10 Qc4_10 Qc5_10 Qc6_10 dn
      obtain ⟨REL2, HREL2⟩ : ∃ REL : List Tb → Int → Value → World → Prop, Hid (REL = fun tz hz tv wr => HasObj wr w.heap.size 50 [.string b.name, .int .i64 b.valid, .int .i64 b.next, .int .i64 b.mod, .slice am b.mails.length cm, .slice at1 b.tombs.length ct1, .int .i64 b.hor] ∧ HasObj wr (w1.heap.size) 50 [.string ⟨#[]⟩, .int .i64 0, .int .i64 0, .int .i64 0, .slice none 0 0, .slice none 0 0, .int .i64 0] ∧ HasObj wr (w3.heap.size) 50 [.string b.name, .int .i64 b.valid, .int .i64 b.next, .int .i64 b.mod, .slice amS b.mails.length cmS, .slice atS b.tombs.length ctS, .int .i64 b.hor] ∧ HasObj wr (w8.heap.size) 50 [.string b.name, .int .i64 b.valid, .int .i64 b.next, .int .i64 (b.mod + 1), .slice amv (leftM s b.mails).length cmv, tv, .int .i64 hz] ∧ OwnBx w2.heap.size wr (.slice amS b.mails.length cmS) (.slice atS b.tombs.length ctS) b ∧ OwnMl w7.heap.size wr (.slice amv (leftM s b.mails).length cmv) (leftM s b.mails) ∧ OwnTb w7.heap.size wr tv tz ∧ OwnR w.heap.size wr (.slice adv (uidsV (goneM s b.mails)).length cdv) (uidsV (goneM s b.mails)) ∧ Below w.heap.size w wr) := ⟨_, rfl⟩
      go_loopw [84] (fun _ wr => ∃ (tz : List Tb) (hz : Int) (tv : Value), tz.length ≤ 70 ∧ TR = Plain.trimmed tz hz ∧ REL2 tz hz tv wr) (fun _ wr => lenAt5 (w8.heap.size) wr)
      case atStart => refine ⟨dd, b.hor, .slice atv dd.length ctv, LD, uh TRE, ?_⟩; rw [uh HREL2]; exact ⟨uh P, uh R, uh S, uh Q, uh OS, uh RM, uh RT, uh RD, uh BB⟩
      clear P R S Q OS RM RT RD BB LD
      case round =>
       obtain ⟨tz, hz, tv, hlz, htr, hr2⟩ := hrel
       rw [uh HREL2] at hr2
       obtain ⟨oP, oR, oS, oQ, bS, rM, rT, rD, hbel⟩ := hr2
       obtain ⟨wp, hwo2⟩ : ∃ wo, wo = wr := ⟨_, rfl⟩
       subst hwo2
       obtain ⟨atzwp, ctzwp, rfl⟩ := g_shape rT
       have lowwp : Hid (w.heap.size ≤ wp.heap.size) := hbel.size
       have k5 := oQ.cell 5 rfl
       by_cases h4 : tz.length ≤ 40
       ·have d1 : decide ((40 : Int) < (tz.length : Int)) = false := by rw [decide_eq_false_iff_not]; omega
        have htr := htr.trans (trimmed_in h4)
        subst htr
        clear k5; have P := hide oP; have R := hide oR; have S := hide oS; have Q := hide oQ; have OS := hide bS; have RM := hide rM; have RT := hide rT; have RD := hide rD; have BB := hide hbel; clear oP oR oS oQ bS rM rT rD hbel
        have OBX : Hid (OwnBx w.heap.size wp (.slice amv (leftM s b.mails).length cmv) (.slice atzwp tz.length ctzwp) { b with mails := leftM s b.mails, mod := b.mod + 1, tombs := tz, hor := hz }) := ⟨g_based (uh RM) lQ, g_based (uh RT) lQ⟩
        have FBX : Hid (FitBx { b with mails := leftM s b.mails, mod := b.mod + 1, tombs := tz, hor := hz }) := by have h9 := uh FE; rw [uh ETZ] at h9; exact h9
        clear RM RT; have Qc0_11 := (uh Q).cell 0 rfl; have Qc1_11 := (uh Q).cell 1 rfl; have Qc2_11 := (uh Q).cell 2 rfl; have Qc3_11 := (uh Q).cell 3 rfl; have Qc4_11 := (uh Q).cell 4 rfl; have Qc5_11 := (uh Q).cell 5 rfl; have Qc6_11 := (uh Q).cell 6 rfl; go_wp2_with fail; clear Qc0_11 Qc1_11 Qc2_11 Qc3_11 Qc4_11 Qc5_11 Qc6_11 d1
        refine (spec_BoxOk_any { b with mails := leftM s b.mails, mod := b.mod + 1, tombs := tz, hor := hz } _ _ _ _ (uh FBX) (uh OBX)).mono ?_
        rintro e wf1 ⟨rfl, hb⟩
        replace P := hide ((uh P).ups hb); replace R := hide ((uh R).ups hb); replace S := hide ((uh S).ups hb); replace Q := hide ((uh Q).ups hb); replace OS := hide ((uh OS).up hb); replace RD := hide ((uh RD).up hb); replace OBX := hide ((uh OBX).up hb); have sz301 := hide (hb.size); replace BB := hide (below_y (uh BB) hb); clear hb
        cases hq5 : boxOk { b with mails := leftM s b.mails, mod := b.mod + 1, tombs := tz, hor := hz } with
        | false =>
         have V3x := hide (uh V3 (by rw [uh ETZ]; exact hq5))
         clear RD; have Sc0_12 := (uh S).cell 0 rfl; have Sc1_12 := (uh S).cell 1 rfl; have Sc2_12 := (uh S).cell 2 rfl; have Sc3_12 := (uh S).cell 3 rfl; have Sc4_12 := (uh S).cell 4 rfl; have Sc5_12 := (uh S).cell 5 rfl; have Sc6_12 := (uh S).cell 6 rfl
         obtain ⟨wpf2, hRD⟩ : ∃ X, X = wf1.alloc (.cells #[] 106) := ⟨_, rfl⟩
         have oRD : OwnR wf1.heap.size wpf2 (.slice (some ⟨wf1.heap.size, 0, none⟩) 0 0) [] := by rw [hRD]; exact World.ownsRow_lit (size := 2) (e := 106) wf1 #[] 0 (Nat.le_refl _) (Nat.zero_le _) rfl
         have hbn : Below wf1.heap.size wf1 wpf2 := by rw [hRD]; exact (Below.refl _ _).alloc (Nat.le_refl _) _
         have ERD := hRD.symm; clear hRD; replace P := hide ((uh P).ups hbn); replace R := hide ((uh R).ups hbn); replace S := hide ((uh S).ups hbn); replace Q := hide ((uh Q).ups hbn); replace OS := hide ((uh OS).up hbn); replace OBX := hide ((uh OBX).up hbn); have sz302 := hide (hbn.size); replace BB := hide (below_y (uh BB) hbn); clear hbn; have RD := hide oRD; clear oRD; have Sc0_13 := (uh S).cell 0 rfl; have Sc1_13 := (uh S).cell 1 rfl; have Sc2_13 := (uh S).cell 2 rfl; have Sc3_13 := (uh S).cell 3 rfl; have Sc4_13 := (uh S).cell 4 rfl; have Sc5_13 := (uh S).cell 5 rfl; have Sc6_13 := (uh S).cell 6 rfl; have Sc0_14 := (uh S).cell 0 rfl; have Sc1_14 := (uh S).cell 1 rfl; have Sc2_14 := (uh S).cell 2 rfl; have Sc3_14 := (uh S).cell 3 rfl; have Sc4_14 := (uh S).cell 4 rfl; have Sc5_14 := (uh S).cell 5 rfl; have Sc6_14 := (uh S).cell 6 rfl; have V := hide (uh V3x); have Rf0 := (uh R).frozen 0; have Rf1 := (uh R).frozen 1; have Rf2 := (uh R).frozen 2; have Rf3 := (uh R).frozen 3; have Rf4 := (uh R).frozen 4; have Rf5 := (uh R).frozen 5; have Rf6 := (uh R).frozen 6; have Re0 := (uh R).cell 0 rfl; have Re1 := (uh R).cell 1 rfl; have Re2 := (uh R).cell 2 rfl; have Re3 := (uh R).cell 3 rfl; have Re4 := (uh R).cell 4 rfl; have Re5 := (uh R).cell 5 rfl; have Re6 := (uh R).cell 6 rfl; have F := hide (fill7 (uh R) (.string b.name) (.int .i64 b.valid) (.int .i64 b.next) (.int .i64 b.mod) (.slice amS b.mails.length cmS) (.slice atS b.tombs.length ctS) (.int .i64 b.hor))
         obtain ⟨U, hU⟩ : ∃ U, U = (((((((wpf2.setCell ⟨w1.heap.size, 0, none⟩ (.string b.name)).setCell ⟨w1.heap.size, 1, none⟩ (.int .i64 b.valid)).setCell ⟨w1.heap.size, 2, none⟩ (.int .i64 b.next)).setCell ⟨w1.heap.size, 3, none⟩ (.int .i64 b.mod)).setCell ⟨w1.heap.size, 4, none⟩ (.slice amS b.mails.length cmS)).setCell ⟨w1.heap.size, 5, none⟩ (.slice atS b.tombs.length ctS)).setCell ⟨w1.heap.size, 6, none⟩ (.int .i64 b.hor)) := ⟨_, rfl⟩
         have F9 := uh F
         rw [← hU] at F9
         have EU := hU.symm; clear F hU; have v0 := F9.obj.cell 0 rfl; have v1 := F9.obj.cell 1 rfl; have v2 := F9.obj.cell 2 rfl; have v3 := F9.obj.cell 3 rfl; have v4 := F9.obj.cell 4 rfl; have v5 := F9.obj.cell 5 rfl; have v6 := F9.obj.cell 6 rfl; have F := hide F9; clear F9
         go_wp2_with (refine bodyPost_ret (by simp [results, Tryz.results22, go_sem, v0, v1, v2, v3, v4, v5, v6]; try rfl) rfl ?_)
         clear EU; have F := uh F
         refine ⟨.slice amS b.mails.length cmS, .slice atS b.tombs.length ctS, .slice (some ⟨wf1.heap.size, 0, none⟩) 0 0, by rw [uh V], ?_, ?_, F.below loR (uh BB)⟩
         ·rw [uh V]; exact ⟨g_based (F.row (by decide) (uh OS).1) (by have lo9_ := uh lOS; have lo8_ := (uh BB).size; have lo7_ := uh lowwp; have sz301_ := uh sz301; have sz302_ := uh sz302; omega), g_based (F.row (by decide) (uh OS).2) (by have lo9_ := uh lOS; have lo8_ := (uh BB).size; have lo7_ := uh lowwp; have sz301_ := uh sz301; have sz302_ := uh sz302; omega)⟩
         ·rw [uh V]; exact g_based (F.row (by decide) (uh RD)) (by have lo9_ := uh lOS; have lo8_ := (uh BB).size; have lo7_ := uh lowwp; have sz301_ := uh sz301; have sz302_ := uh sz302; omega)
        | true =>
         have V : Hid (expV b s = ({ b with mails := leftM s b.mails, mod := b.mod + 1, tombs := tz, hor := hz }, uidsV (goneM s b.mails))) := by show _ = _; rw [uh V4 (uh OK2) (uh NE) (by rw [uh ETZ]; exact hq5), uh ETZ]
         clear hq5; have Qc0_12 := (uh Q).cell 0 rfl; have Qc1_12 := (uh Q).cell 1 rfl; have Qc2_12 := (uh Q).cell 2 rfl; have Qc3_12 := (uh Q).cell 3 rfl; have Qc4_12 := (uh Q).cell 4 rfl; have Qc5_12 := (uh Q).cell 5 rfl; have Qc6_12 := (uh Q).cell 6 rfl; have Rf0 := (uh R).frozen 0; have Rf1 := (uh R).frozen 1; have Rf2 := (uh R).frozen 2; have Rf3 := (uh R).frozen 3; have Rf4 := (uh R).frozen 4; have Rf5 := (uh R).frozen 5; have Rf6 := (uh R).frozen 6; have Re0 := (uh R).cell 0 rfl; have Re1 := (uh R).cell 1 rfl; have Re2 := (uh R).cell 2 rfl; have Re3 := (uh R).cell 3 rfl; have Re4 := (uh R).cell 4 rfl; have Re5 := (uh R).cell 5 rfl; have Re6 := (uh R).cell 6 rfl; have F := hide (fill7 (uh R) (.string b.name) (.int .i64 b.valid) (.int .i64 b.next) (.int .i64 (b.mod + 1)) (.slice amv (leftM s b.mails).length cmv) (.slice atzwp tz.length ctzwp) (.int .i64 hz))
         obtain ⟨U, hU⟩ : ∃ U, U = (((((((wf1.setCell ⟨w1.heap.size, 0, none⟩ (.string b.name)).setCell ⟨w1.heap.size, 1, none⟩ (.int .i64 b.valid)).setCell ⟨w1.heap.size, 2, none⟩ (.int .i64 b.next)).setCell ⟨w1.heap.size, 3, none⟩ (.int .i64 (b.mod + 1))).setCell ⟨w1.heap.size, 4, none⟩ (.slice amv (leftM s b.mails).length cmv)).setCell ⟨w1.heap.size, 5, none⟩ (.slice atzwp tz.length ctzwp)).setCell ⟨w1.heap.size, 6, none⟩ (.int .i64 hz)) := ⟨_, rfl⟩
         have F9 := uh F
         rw [← hU] at F9
         have EU := hU.symm; clear F hU; have v0 := F9.obj.cell 0 rfl; have v1 := F9.obj.cell 1 rfl; have v2 := F9.obj.cell 2 rfl; have v3 := F9.obj.cell 3 rfl; have v4 := F9.obj.cell 4 rfl; have v5 := F9.obj.cell 5 rfl; have v6 := F9.obj.cell 6 rfl; have F := hide F9; clear F9
         go_wp2_with (refine bodyPost_ret (by simp [results, Tryz.results22, go_sem, v0, v1, v2, v3, v4, v5, v6]; try rfl) rfl ?_)
         clear EU; have F := uh F
         refine ⟨.slice amv (leftM s b.mails).length cmv, .slice atzwp tz.length ctzwp, .slice adv (uidsV (goneM s b.mails)).length cdv, by rw [uh V], ?_, ?_, F.below loR (uh BB)⟩
         ·rw [uh V]; exact ⟨F.row (by decide) (uh OBX).1, F.row (by decide) (uh OBX).2⟩
         ·rw [uh V]; exact F.row (by decide) (uh RD)
       ·have d1 : decide ((40 : Int) < (tz.length : Int)) = true := by rw [decide_eq_true_eq]; omega
        have M0 : Hid (lenAt5 (w8.heap.size) wp = tz.length) := by show _ = _; unfold lenAt5; rw [k5]
        obtain ⟨t0, r0, htz⟩ : ∃ t r, tz = t :: r := by cases tz with | nil => simp at h4 | cons t r => exact ⟨t, r, rfl⟩
        obtain ⟨gt, cpt, e, hgt, c0, c1⟩ := tb_read rT (Below.refl _ _) (k := 0) (f := t0) (by rw [htz]; rfl)
        cases e
        simp only [Nat.zero_mul, Nat.zero_add] at c0 c1
        have ON : Hid (TR = Plain.trimmed (tz.dropWhile (fun y => decide (y.mod ≤ t0.mod))) t0.mod) := by show _ = _; rw [htr, htz]; exact trimmed_on (by rw [← htz]; exact h4)
        have LS : Hid ((tz.dropWhile (fun y => decide (y.mod ≤ t0.mod))).length < tz.length) := by show _ < _; rw [htz]; exact Nat.lt_succ_of_le (drop_less t0 r0)
        have j1 : (0 : Int) < (tz.length : Int) := by omega
        clear htz htr h4 k5; have P := hide oP; have R := hide oR; have S := hide oS; have Q := hide oQ; have OS := hide bS; have RM := hide rM; have RT := hide rT; have RD := hide rD; have BB := hide hbel; clear oP oR oS oQ bS rM rT rD hbel; have Qc0_11 := (uh Q).cell 0 rfl; have Qc1_11 := (uh Q).cell 1 rfl; have Qc2_11 := (uh Q).cell 2 rfl; have Qc3_11 := (uh Q).cell 3 rfl; have Qc4_11 := (uh Q).cell 4 rfl; have Qc5_11 := (uh Q).cell 5 rfl; have Qc6_11 := (uh Q).cell 6 rfl; have Qfz6_12 := (uh Q).frozen 6; have Qcz6_12 := (uh Q).cell 6 rfl
        obtain ⟨wg1, hst⟩ : ∃ X, X = wp.setCell ⟨w8.heap.size, 6, none⟩ (.int .i64 t0.mod) := ⟨_, rfl⟩
        have OS_ : Hid (OwnBx w2.heap.size wg1 (.slice amS b.mails.length cmS) (.slice atS b.tombs.length ctS) b) := by show OwnBx _ _ _ _ _; rw [hst]; exact ⟨(uh Q).row (j := 6) (by decide) (uh OS).1 _, (uh Q).row (j := 6) (by decide) (uh OS).2 _⟩
        have RM_ : Hid (OwnMl w7.heap.size wg1 (.slice amv (leftM s b.mails).length cmv) (leftM s b.mails)) := by show OwnMl _ _ _ _; rw [hst]; exact (uh Q).row (j := 6) (by decide) (uh RM) _
        have RT_ : Hid (OwnTb w7.heap.size wg1 (.slice (some ⟨gt, 0, none⟩) tz.length ctzwp) (tz)) := by show OwnTb _ _ _ _; rw [hst]; exact (uh Q).row (j := 6) (by decide) (uh RT) _
        have RD_ : Hid (OwnR w.heap.size wg1 (.slice adv (uidsV (goneM s b.mails)).length cdv) (uidsV (goneM s b.mails))) := by show OwnR _ _ _ _; rw [hst]; exact (uh Q).row (j := 6) (by decide) (uh RD) _
        have P_ := hide ((uh P).other (j := 6) nePQ (.int .i64 t0.mod))
        rw [← hst] at P_
        have R_ := hide ((uh R).other (j := 6) neRQ (.int .i64 t0.mod))
        rw [← hst] at R_
        have S_ := hide ((uh S).other (j := 6) neSQ (.int .i64 t0.mod))
        rw [← hst] at S_
        have Q_ := hide ((uh Q).set 6 (.int .i64 t0.mod))
        rw [← hst] at Q_
        have BB_ := hide ((uh BB).setCell (p := ⟨w8.heap.size, 6, none⟩) (show w.heap.size ≤ w8.heap.size from loQ) (.int .i64 t0.mod))
        rw [← hst] at BB_
        have sz301 : Hid (wp.heap.size ≤ wg1.heap.size) := by show _ ≤ _; rw [hst]; simp
        replace OS := OS_; clear OS_; replace RM := RM_; clear RM_; replace RT := RT_; clear RT_; replace RD := RD_; clear RD_; replace P := P_; clear P_; replace R := R_; clear R_; replace S := S_; clear S_; replace Q := Q_; clear Q_; replace BB := BB_; clear BB_; have Est301 := hst.symm; clear hst
        go_wp2
        clear Qc0_11 Qc1_11 Qc2_11 Qc3_11 Qc4_11 Qc5_11 Qc6_11 Qfz6_12 Qcz6_12 d1 c0 c1 j1 Est301
        generalize hmm : t0.mod = hm at *
        have hmm := hide hmm
        go_loopw [94] (fun _ wr => ∃ (ty : List Tb) (tv : Value), ty.length ≤ 70 ∧ TR = Plain.trimmed (ty.dropWhile (fun y => decide (y.mod ≤ hm))) hm ∧ (ty.dropWhile (fun y => decide (y.mod ≤ hm))).length < tz.length ∧ REL2 ty hm tv wr) (fun _ wr => lenAt5 (w8.heap.size) wr)
        case atStart => refine ⟨tz, .slice (some ⟨gt, 0, none⟩) tz.length ctzwp, hlz, uh ON, uh LS, ?_⟩; rw [uh HREL2]; exact ⟨uh P, uh R, uh S, uh Q, uh OS, uh RM, uh RT, uh RD, uh BB⟩
        clear P R S Q OS RM RT RD BB ON LS
        case round =>
         obtain ⟨ty, tv, hly, htr, hls, hr2⟩ := hrel
         rw [uh HREL2] at hr2
         obtain ⟨oP, oR, oS, oQ, bS, rM, rT, rD, hbel⟩ := hr2
         obtain ⟨wq, hwo2⟩ : ∃ wo, wo = wr := ⟨_, rfl⟩
         subst hwo2
         obtain ⟨atzwq, ctzwq, rfl⟩ := g_shape rT
         have lowwq : Hid (w.heap.size ≤ wq.heap.size) := hbel.size
         obtain ⟨nY, hnY⟩ : ∃ n, n = ty.length := ⟨_, rfl⟩
         rw [← hnY] at rT oQ
         have k5 := oQ.cell 5 rfl
         have M1 : Hid (lenAt5 (w8.heap.size) wq = ty.length) := by show _ = _; unfold lenAt5; rw [k5]; exact hnY
         cases hty : ty with
         | nil =>
          have HT : Hid (TR = Plain.trimmed ty hm) := by show _ = _; rw [htr, hty]; rfl
          have HLS : Hid (ty.length < tz.length) := by show _ < _; rw [hty] at hls ⊢; exact hls
          have e0 : nY = 0 := by rw [hnY, hty]; rfl
          subst e0
          clear htr hls hty k5 hnY; have P := hide oP; have R := hide oR; have S := hide oS; have Q := hide oQ; have OS := hide bS; have RM := hide rM; have RT := hide rT; have RD := hide rD; have BB := hide hbel; clear oP oR oS oQ bS rM rT rD hbel; have Qc0_13 := (uh Q).cell 0 rfl; have Qc1_13 := (uh Q).cell 1 rfl; have Qc2_13 := (uh Q).cell 2 rfl; have Qc3_13 := (uh Q).cell 3 rfl; have Qc4_13 := (uh Q).cell 4 rfl; have Qc5_13 := (uh Q).cell 5 rfl; have Qc6_13 := (uh Q).cell 6 rfl
          go_wp2
          go_quiet (fail)
          clear Qc0_13 Qc1_13 Qc2_13 Qc3_13 Qc4_13 Qc5_13 Qc6_13
          obtain ⟨wz, hwz⟩ : ∃ X, X = wq.drewN nq := ⟨_, rfl⟩
          rw [← hwz]
          have hb : Below wq.heap.size wq wz := by rw [hwz]; exact below_dN _ _
          have M2 : Hid (lenAt5 (w8.heap.size) wz = ty.length) := by rw [hwz]; exact uh M1
          clear hwz; replace P := hide ((uh P).ups hb); replace R := hide ((uh R).ups hb); replace S := hide ((uh S).ups hb); replace Q := hide ((uh Q).ups hb); replace OS := hide ((uh OS).up hb); replace RM := hide ((uh RM).up hb); replace RT := hide ((uh RT).up hb); replace RD := hide ((uh RD).up hb); have sz301 := hide (hb.size); replace BB := hide (below_y (uh BB) hb); clear hb
          go_wp2
          go_roundw
          case rel => refine ⟨ty, hm, .slice atzwq 0 ctzwq, hly, by have h9 := uh HT; exact h9, ?_⟩; rw [uh HREL2]; exact ⟨uh P, uh R, uh S, uh Q, uh OS, uh RM, uh RT, uh RD, uh BB⟩
          case measure => rw [uh M0, uh M2]; exact uh HLS
         | cons t1 r1 =>
          obtain ⟨g1, cp1, e, hg1, c0, c1⟩ := tb_read rT (Below.refl _ _) (k := 0) (f := t1) (by rw [hty]; rfl)
          have e1 := (Value.slice.inj e).1; clear e
          subst e1
          simp only [Nat.zero_mul, Nat.zero_add] at c0 c1
          have NY : Hid (nY = r1.length + 1) := by show _ = _; rw [hnY, hty]; rfl
          have j3 : (0 : Int) < (nY : Int) := by rw [hnY, hty, List.length_cons]; omega
          have j2 : decide ((0 : Int) < (nY : Int)) = true := decide_eq_true j3
          have j2n : decide (0 < nY) = true := decide_eq_true (by omega)
          by_cases hm1 : t1.mod ≤ hm
          ·have d2 : decide (t1.mod ≤ hm) = true := decide_eq_true hm1
           have LR : Hid (ty.length = r1.length + 1) := by show _ = _; rw [hty]; rfl
           have HT : Hid (TR = Plain.trimmed (r1.dropWhile (fun y => decide (y.mod ≤ hm))) hm) := by show _ = _; rw [htr, hty, drop_go hm1]
           have HLS : Hid ((r1.dropWhile (fun y => decide (y.mod ≤ hm))).length < tz.length) := by have h9 := hls; rw [hty, drop_go hm1] at h9; exact h9
           have ETY := hide hty; clear htr hls hty hm1 k5 hnY; have P := hide oP; have R := hide oR; have S := hide oS; have Q := hide oQ; have OS := hide bS; have RM := hide rM; have RT := hide rT; have RD := hide rD; have BB := hide hbel; clear oP oR oS oQ bS rM rT rD hbel; have Qc0_13 := (uh Q).cell 0 rfl; have Qc1_13 := (uh Q).cell 1 rfl; have Qc2_13 := (uh Q).cell 2 rfl; have Qc3_13 := (uh Q).cell 3 rfl; have Qc4_13 := (uh Q).cell 4 rfl; have Qc5_13 := (uh Q).cell 5 rfl; have Qc6_13 := (uh Q).cell 6 rfl
           go_wp2
           go_quiet (fail)
           clear Qc0_13 Qc1_13 Qc2_13 Qc3_13 Qc4_13 Qc5_13 Qc6_13 j2 j2n d2 c0 c1
           obtain ⟨wz, hwz⟩ : ∃ X, X = wq.drewN nq := ⟨_, rfl⟩
           rw [← hwz]
           have hb : Below wq.heap.size wq wz := by rw [hwz]; exact below_dN _ _
           have M2 : Hid (lenAt5 (w8.heap.size) wz = ty.length) := by rw [hwz]; exact uh M1
           clear hwz; replace P := hide ((uh P).ups hb); replace R := hide ((uh R).ups hb); replace S := hide ((uh S).ups hb); replace Q := hide ((uh Q).ups hb); replace OS := hide ((uh OS).up hb); replace RM := hide ((uh RM).up hb); replace RT := hide ((uh RT).up hb); replace RD := hide ((uh RD).up hb); have sz301 := hide (hb.size); replace BB := hide (below_y (uh BB) hb); clear hb; have NYu := uh NY
           subst NYu
           have hWQz : Hid (w7.heap.size ≤ wz.heap.size) := Nat.le_trans lQQ (Nat.le_of_lt (uh Q).lt)
           have hWz : Hid (w.heap.size ≤ wz.heap.size) := (uh BB).size
           have CL := cap_le (uh RT) (uh LR)
           by_cases hcap : ctzwq = 1
           ·subst hcap
            have R1h : Hid (r1 = []) := List.length_eq_zero_iff.1 (by omega)
            clear CL
            have j4 : (1 : Int) ≤ (r1.length : Int) + 1 := by omega
            obtain ⟨wwxo1, hRN⟩ : ∃ X, X = wz.alloc (.cells #[] 117) := ⟨_, rfl⟩
            have oRN : OwnTb wz.heap.size wwxo1 (.slice (some ⟨wz.heap.size, 0, none⟩) 0 0) [] := by rw [hRN]; exact World.ownsRow_lit (size := 2) (e := 117) wz #[] 0 (Nat.le_refl _) (Nat.zero_le _) rfl
            have hbn : Below wz.heap.size wz wwxo1 := by rw [hRN]; exact (Below.refl _ _).alloc (Nat.le_refl _) _
            have ERN := hRN.symm; clear hRN; replace P := hide ((uh P).ups hbn); replace R := hide ((uh R).ups hbn); replace S := hide ((uh S).ups hbn); replace Q := hide ((uh Q).ups hbn); replace OS := hide ((uh OS).up hbn); replace RM := hide ((uh RM).up hbn); replace RT := hide ((uh RT).up hbn); replace RD := hide ((uh RD).up hbn); have sz302 := hide (hbn.size); replace BB := hide (below_y (uh BB) hbn); clear hbn; have RN := hide oRN; clear oRN; have Qc0_14 := (uh Q).cell 0 rfl; have Qc1_14 := (uh Q).cell 1 rfl; have Qc2_14 := (uh Q).cell 2 rfl; have Qc3_14 := (uh Q).cell 3 rfl; have Qc4_14 := (uh Q).cell 4 rfl; have Qc5_14 := (uh Q).cell 5 rfl; have Qc6_14 := (uh Q).cell 6 rfl
            have SRC : Hid (∀ (j : Nat) (u : Value), (rowC tbC r1)[j]? = some u → wwxo1.cell? ⟨g1, j, none⟩ = some u) := fun j u hu => by rw [uh R1h] at hu; cases hu
            go_wp2_with (at_builtin; refine wpList_append_own _ rfl _ _ 48 rfl (wz.heap.size) 117 iT _ 2 16 Tryz.underlying48 hT hT0 hT1 hT2 rfl (by decide) _ _ _ rfl (uh RN) _ _ _ (rowC tbC r1) rfl ?c0 ?c1 ?c2 ?c3 ?c4 ?c5 ?_)
            clear Qc0_14 Qc1_14 Qc2_14 Qc3_14 Qc4_14 Qc5_14 Qc6_14 ERN
            case c0 => first | exact rowC_len2 r1 | (rw [rowC_len2]; omega)
            case c1 => exact fun j u hu => uh SRC j u hu
            case c2 => exact fun u hu => rowT_one hu
            case c3 => have h9 := uh LR; unfold maxLen; (try simp only [List.length_nil]); omega
            case c4 => have h9 := uh LR; (try simp only [List.length_nil]); omega
            case c5 => have sz301_ := uh sz301; have sz302_ := uh sz302; omega
            intro vNN wwxo2 hown hgr _
            have oa := uh RN
            have RT2 : OwnTb (wz.heap.size) wwxo2 vNN r1 := own_fresh hown
            have P_ := hide ((uh P).kept hgr (fun e => (uh P).not_row (by decide) oa e.symm))
            have R_ := hide ((uh R).kept hgr (fun e => (uh R).not_row (by decide) oa e.symm))
            have S_ := hide ((uh S).kept hgr (fun e => (uh S).not_row (by decide) oa e.symm))
            have Q_ := hide ((uh Q).kept hgr (fun e => (uh Q).not_row (by decide) oa e.symm))
            clear RT
            have RM_ : Hid (OwnMl w7.heap.size wwxo2 (.slice amv (leftM s b.mails).length cmv) (leftM s b.mails)) := g_aside (uh RM) hgr (fun x hx => rows_apart oa (uh RM) (by decide) x hx)
            have RD_ : Hid (OwnR w.heap.size wwxo2 (.slice adv (uidsV (goneM s b.mails)).length cdv) (uidsV (goneM s b.mails))) := g_aside (uh RD) hgr (fun x hx => rows_apart oa (uh RD) (by decide) x hx)
            have OS_ : Hid (OwnBx w2.heap.size wwxo2 (.slice amS b.mails.length cmS) (.slice atS b.tombs.length ctS) b) := ⟨g_aside (uh OS).1 hgr (fun x hx => rows_apart oa (uh OS).1 (by decide) x hx), g_aside (uh OS).2 hgr (fun z hz hz2 => by have q1_ := (World.ownsRow.lt oa z hz).1; have q2_ := uh SEP z (.inr hz2); have q3_ := uh hWQz; have sz301_ := uh sz301; have sz302_ := uh sz302; omega)⟩
            have BB_ : Hid (Below w.heap.size w wwxo2) := (uh BB).grown hgr (uh BB).size (fun b hb => by have q2_ := (World.ownsRow.lt oa b hb).1; have q3_ := uh hWz; have sz301_ := uh sz301; have sz302_ := uh sz302; omega)
            replace P := P_; clear P_; replace R := R_; clear R_; replace S := S_; clear S_; replace Q := Q_; clear Q_; replace RM := RM_; clear RM_; replace RD := RD_; clear RD_; replace OS := OS_; clear OS_; replace BB := BB_; clear BB_
            have sz303 : Hid (wwxo1.heap.size ≤ wwxo2.heap.size) := hgr.size
            obtain ⟨aN, cN, rfl⟩ := g_shape RT2
            have RT : Hid (OwnTb w7.heap.size wwxo2 (.slice aN r1.length cN) r1) := g_based RT2 (by have q3_ := uh hWQz; have sz301_ := uh sz301; have sz302_ := uh sz302; have sz303_ := uh sz303; omega)
            clear hown hgr oa RN RT2; have Qc0_15 := (uh Q).cell 0 rfl; have Qc1_15 := (uh Q).cell 1 rfl; have Qc2_15 := (uh Q).cell 2 rfl; have Qc3_15 := (uh Q).cell 3 rfl; have Qc4_15 := (uh Q).cell 4 rfl; have Qc5_15 := (uh Q).cell 5 rfl; have Qc6_15 := (uh Q).cell 6 rfl; have Qfz5_16 := (uh Q).frozen 5; have Qcz5_16 := (uh Q).cell 5 rfl
            obtain ⟨wwxo3, hst⟩ : ∃ X, X = wwxo2.setCell ⟨w8.heap.size, 5, none⟩ (.slice aN r1.length cN) := ⟨_, rfl⟩
            have OS_ : Hid (OwnBx w2.heap.size wwxo3 (.slice amS b.mails.length cmS) (.slice atS b.tombs.length ctS) b) := by show OwnBx _ _ _ _ _; rw [hst]; exact ⟨(uh Q).row (j := 5) (by decide) (uh OS).1 _, (uh Q).row (j := 5) (by decide) (uh OS).2 _⟩
            have RM_ : Hid (OwnMl w7.heap.size wwxo3 (.slice amv (leftM s b.mails).length cmv) (leftM s b.mails)) := by show OwnMl _ _ _ _; rw [hst]; exact (uh Q).row (j := 5) (by decide) (uh RM) _
            have RD_ : Hid (OwnR w.heap.size wwxo3 (.slice adv (uidsV (goneM s b.mails)).length cdv) (uidsV (goneM s b.mails))) := by show OwnR _ _ _ _; rw [hst]; exact (uh Q).row (j := 5) (by decide) (uh RD) _
            have RT_ : Hid (OwnTb w7.heap.size wwxo3 (.slice aN r1.length cN) (r1)) := by show OwnTb _ _ _ _; rw [hst]; exact (uh Q).row (j := 5) (by decide) (uh RT) _
            have P_ := hide ((uh P).other (j := 5) nePQ (.slice aN r1.length cN))
            rw [← hst] at P_
            have R_ := hide ((uh R).other (j := 5) neRQ (.slice aN r1.length cN))
            rw [← hst] at R_
            have S_ := hide ((uh S).other (j := 5) neSQ (.slice aN r1.length cN))
            rw [← hst] at S_
            have Q_ := hide ((uh Q).set 5 (.slice aN r1.length cN))
            rw [← hst] at Q_
            have BB_ := hide ((uh BB).setCell (p := ⟨w8.heap.size, 5, none⟩) (show w.heap.size ≤ w8.heap.size from loQ) (.slice aN r1.length cN))
            rw [← hst] at BB_
            have sz304 : Hid (wwxo2.heap.size ≤ wwxo3.heap.size) := by show _ ≤ _; rw [hst]; simp
            replace OS := OS_; clear OS_; replace RM := RM_; clear RM_; replace RD := RD_; clear RD_; replace RT := RT_; clear RT_; replace P := P_; clear P_; replace R := R_; clear R_; replace S := S_; clear S_; replace Q := Q_; clear Q_; replace BB := BB_; clear BB_; have Est304 := hst.symm; clear hst
            have L5 : Hid (lenAt5 (w8.heap.size) wwxo3 = r1.length) := by show _ = _; unfold lenAt5; rw [(uh Q).cell 5 rfl]
            go_wp2
            go_roundw
            case rel => refine ⟨r1, .slice aN r1.length cN, by have h9 := uh LR; omega, uh HT, uh HLS, ?_⟩; rw [uh HREL2]; exact ⟨uh P, uh R, uh S, uh Q, uh OS, uh RM, uh RT, uh RD, uh BB⟩
            case measure => rw [uh M1, uh L5, uh LR]; exact Nat.lt_succ_self _
           ·clear CL
            have j4 : (1 : Int) ≤ (r1.length : Int) + 1 := by omega
            obtain ⟨wwxm1, hRN⟩ : ∃ X, X = wz.alloc (.cells #[] 117) := ⟨_, rfl⟩
            have oRN : OwnTb wz.heap.size wwxm1 (.slice (some ⟨wz.heap.size, 0, none⟩) 0 0) [] := by rw [hRN]; exact World.ownsRow_lit (size := 2) (e := 117) wz #[] 0 (Nat.le_refl _) (Nat.zero_le _) rfl
            have hbn : Below wz.heap.size wz wwxm1 := by rw [hRN]; exact (Below.refl _ _).alloc (Nat.le_refl _) _
            have ERN := hRN.symm; clear hRN; replace P := hide ((uh P).ups hbn); replace R := hide ((uh R).ups hbn); replace S := hide ((uh S).ups hbn); replace Q := hide ((uh Q).ups hbn); replace OS := hide ((uh OS).up hbn); replace RM := hide ((uh RM).up hbn); replace RT := hide ((uh RT).up hbn); replace RD := hide ((uh RD).up hbn); have sz302 := hide (hbn.size); replace BB := hide (below_y (uh BB) hbn); clear hbn; have RN := hide oRN; clear oRN; have Qc0_14 := (uh Q).cell 0 rfl; have Qc1_14 := (uh Q).cell 1 rfl; have Qc2_14 := (uh Q).cell 2 rfl; have Qc3_14 := (uh Q).cell 3 rfl; have Qc4_14 := (uh Q).cell 4 rfl; have Qc5_14 := (uh Q).cell 5 rfl; have Qc6_14 := (uh Q).cell 6 rfl
            have SRC : Hid (∀ (j : Nat) (u : Value), (rowC tbC r1)[j]? = some u → wwxm1.cell? ⟨g1, 2 + j, none⟩ = some u) := fun j u hu => row_tail (t1 := t1) (by have h9 := uh RT; rw [uh ETY] at h9; exact h9) hu
            go_wp2_with (at_builtin; refine wpList_append_own _ rfl _ _ 48 rfl (wz.heap.size) 117 iT _ 2 16 Tryz.underlying48 hT hT0 hT1 hT2 rfl (by decide) _ _ _ rfl (uh RN) _ _ _ (rowC tbC r1) rfl ?c0 ?c1 ?c2 ?c3 ?c4 ?c5 ?_)
            clear Qc0_14 Qc1_14 Qc2_14 Qc3_14 Qc4_14 Qc5_14 Qc6_14 ERN
            case c0 => first | exact rowC_len2 r1 | (rw [rowC_len2]; omega)
            case c1 => exact fun j u hu => uh SRC j u hu
            case c2 => exact fun u hu => rowT_one hu
            case c3 => have h9 := uh LR; unfold maxLen; (try simp only [List.length_nil]); omega
            case c4 => have h9 := uh LR; (try simp only [List.length_nil]); omega
            case c5 => have sz301_ := uh sz301; have sz302_ := uh sz302; omega
            intro vNN wwxm2 hown hgr _
            have oa := uh RN
            have RT2 : OwnTb (wz.heap.size) wwxm2 vNN r1 := own_fresh hown
            have P_ := hide ((uh P).kept hgr (fun e => (uh P).not_row (by decide) oa e.symm))
            have R_ := hide ((uh R).kept hgr (fun e => (uh R).not_row (by decide) oa e.symm))
            have S_ := hide ((uh S).kept hgr (fun e => (uh S).not_row (by decide) oa e.symm))
            have Q_ := hide ((uh Q).kept hgr (fun e => (uh Q).not_row (by decide) oa e.symm))
            clear RT
            have RM_ : Hid (OwnMl w7.heap.size wwxm2 (.slice amv (leftM s b.mails).length cmv) (leftM s b.mails)) := g_aside (uh RM) hgr (fun x hx => rows_apart oa (uh RM) (by decide) x hx)
            have RD_ : Hid (OwnR w.heap.size wwxm2 (.slice adv (uidsV (goneM s b.mails)).length cdv) (uidsV (goneM s b.mails))) := g_aside (uh RD) hgr (fun x hx => rows_apart oa (uh RD) (by decide) x hx)
            have OS_ : Hid (OwnBx w2.heap.size wwxm2 (.slice amS b.mails.length cmS) (.slice atS b.tombs.length ctS) b) := ⟨g_aside (uh OS).1 hgr (fun x hx => rows_apart oa (uh OS).1 (by decide) x hx), g_aside (uh OS).2 hgr (fun z hz hz2 => by have q1_ := (World.ownsRow.lt oa z hz).1; have q2_ := uh SEP z (.inr hz2); have q3_ := uh hWQz; have sz301_ := uh sz301; have sz302_ := uh sz302; omega)⟩
            have BB_ : Hid (Below w.heap.size w wwxm2) := (uh BB).grown hgr (uh BB).size (fun b hb => by have q2_ := (World.ownsRow.lt oa b hb).1; have q3_ := uh hWz; have sz301_ := uh sz301; have sz302_ := uh sz302; omega)
            replace P := P_; clear P_; replace R := R_; clear R_; replace S := S_; clear S_; replace Q := Q_; clear Q_; replace RM := RM_; clear RM_; replace RD := RD_; clear RD_; replace OS := OS_; clear OS_; replace BB := BB_; clear BB_
            have sz303 : Hid (wwxm1.heap.size ≤ wwxm2.heap.size) := hgr.size
            obtain ⟨aN, cN, rfl⟩ := g_shape RT2
            have RT : Hid (OwnTb w7.heap.size wwxm2 (.slice aN r1.length cN) r1) := g_based RT2 (by have q3_ := uh hWQz; have sz301_ := uh sz301; have sz302_ := uh sz302; have sz303_ := uh sz303; omega)
            clear hown hgr oa RN RT2; have Qc0_15 := (uh Q).cell 0 rfl; have Qc1_15 := (uh Q).cell 1 rfl; have Qc2_15 := (uh Q).cell 2 rfl; have Qc3_15 := (uh Q).cell 3 rfl; have Qc4_15 := (uh Q).cell 4 rfl; have Qc5_15 := (uh Q).cell 5 rfl; have Qc6_15 := (uh Q).cell 6 rfl; have Qfz5_16 := (uh Q).frozen 5; have Qcz5_16 := (uh Q).cell 5 rfl
            obtain ⟨wwxm3, hst⟩ : ∃ X, X = wwxm2.setCell ⟨w8.heap.size, 5, none⟩ (.slice aN r1.length cN) := ⟨_, rfl⟩
            have OS_ : Hid (OwnBx w2.heap.size wwxm3 (.slice amS b.mails.length cmS) (.slice atS b.tombs.length ctS) b) := by show OwnBx _ _ _ _ _; rw [hst]; exact ⟨(uh Q).row (j := 5) (by decide) (uh OS).1 _, (uh Q).row (j := 5) (by decide) (uh OS).2 _⟩
            have RM_ : Hid (OwnMl w7.heap.size wwxm3 (.slice amv (leftM s b.mails).length cmv) (leftM s b.mails)) := by show OwnMl _ _ _ _; rw [hst]; exact (uh Q).row (j := 5) (by decide) (uh RM) _
            have RD_ : Hid (OwnR w.heap.size wwxm3 (.slice adv (uidsV (goneM s b.mails)).length cdv) (uidsV (goneM s b.mails))) := by show OwnR _ _ _ _; rw [hst]; exact (uh Q).row (j := 5) (by decide) (uh RD) _
            have RT_ : Hid (OwnTb w7.heap.size wwxm3 (.slice aN r1.length cN) (r1)) := by show OwnTb _ _ _ _; rw [hst]; exact (uh Q).row (j := 5) (by decide) (uh RT) _
            have P_ := hide ((uh P).other (j := 5) nePQ (.slice aN r1.length cN))
            rw [← hst] at P_
            have R_ := hide ((uh R).other (j := 5) neRQ (.slice aN r1.length cN))
            rw [← hst] at R_
            have S_ := hide ((uh S).other (j := 5) neSQ (.slice aN r1.length cN))
            rw [← hst] at S_
            have Q_ := hide ((uh Q).set 5 (.slice aN r1.length cN))
            rw [← hst] at Q_
            have BB_ := hide ((uh BB).setCell (p := ⟨w8.heap.size, 5, none⟩) (show w.heap.size ≤ w8.heap.size from loQ) (.slice aN r1.length cN))
            rw [← hst] at BB_
            have sz304 : Hid (wwxm2.heap.size ≤ wwxm3.heap.size) := by show _ ≤ _; rw [hst]; simp
            replace OS := OS_; clear OS_; replace RM := RM_; clear RM_; replace RD := RD_; clear RD_; replace RT := RT_; clear RT_; replace P := P_; clear P_; replace R := R_; clear R_; replace S := S_; clear S_; replace Q := Q_; clear Q_; replace BB := BB_; clear BB_; have Est304 := hst.symm; clear hst
            have L5 : Hid (lenAt5 (w8.heap.size) wwxm3 = r1.length) := by show _ = _; unfold lenAt5; rw [(uh Q).cell 5 rfl]
            go_wp2
            go_roundw
            case rel => refine ⟨r1, .slice aN r1.length cN, by have h9 := uh LR; omega, uh HT, uh HLS, ?_⟩; rw [uh HREL2]; exact ⟨uh P, uh R, uh S, uh Q, uh OS, uh RM, uh RT, uh RD, uh BB⟩
            case measure => rw [uh M1, uh L5, uh LR]; exact Nat.lt_succ_self _
          ·have d2 : decide (t1.mod ≤ hm) = false := decide_eq_false hm1
           have HT : Hid (TR = Plain.trimmed ty hm) := by show _ = _; rw [htr, hty, drop_stop hm1]
           have HLS : Hid (ty.length < tz.length) := by have h9 := hls; rw [hty, drop_stop hm1] at h9; show _ < _; rw [hty]; exact h9
           clear htr hls hty hm1 k5 hnY; have P := hide oP; have R := hide oR; have S := hide oS; have Q := hide oQ; have OS := hide bS; have RM := hide rM; have RT := hide rT; have RD := hide rD; have BB := hide hbel; clear oP oR oS oQ bS rM rT rD hbel; have Qc0_13 := (uh Q).cell 0 rfl; have Qc1_13 := (uh Q).cell 1 rfl; have Qc2_13 := (uh Q).cell 2 rfl; have Qc3_13 := (uh Q).cell 3 rfl; have Qc4_13 := (uh Q).cell 4 rfl; have Qc5_13 := (uh Q).cell 5 rfl; have Qc6_13 := (uh Q).cell 6 rfl
           go_wp2
           go_quiet (fail)
           clear Qc0_13 Qc1_13 Qc2_13 Qc3_13 Qc4_13 Qc5_13 Qc6_13 j2 j2n d2 c0 c1
           obtain ⟨wz, hwz⟩ : ∃ X, X = wq.drewN nq := ⟨_, rfl⟩
           rw [← hwz]
           have hb : Below wq.heap.size wq wz := by rw [hwz]; exact below_dN _ _
           have M2 : Hid (lenAt5 (w8.heap.size) wz = ty.length) := by rw [hwz]; exact uh M1
           clear hwz; replace P := hide ((uh P).ups hb); replace R := hide ((uh R).ups hb); replace S := hide ((uh S).ups hb); replace Q := hide ((uh Q).ups hb); replace OS := hide ((uh OS).up hb); replace RM := hide ((uh RM).up hb); replace RT := hide ((uh RT).up hb); replace RD := hide ((uh RD).up hb); have sz301 := hide (hb.size); replace BB := hide (below_y (uh BB) hb); clear hb; have NYu := uh NY
           subst NYu
           go_wp2
           go_roundw
           case rel => refine ⟨ty, hm, .slice (some ⟨g1, 0, none⟩) (r1.length + 1) ctzwq, hly, by have h9 := uh HT; exact h9, ?_⟩; rw [uh HREL2]; exact ⟨uh P, uh R, uh S, uh Q, uh OS, uh RM, uh RT, uh RD, uh BB⟩
           case measure => rw [uh M0, uh M2]; exact uh HLS
end Go.Proofs.YtlngjflhbkannaaGreat
