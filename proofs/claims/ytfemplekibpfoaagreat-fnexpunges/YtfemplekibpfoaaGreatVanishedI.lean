/- Boxes: the program's Vanished. Made by gen_uidset.py. -/
import Derived.Test.YtfemplekibpfoaaGreatUidSetI
import Derived.Test.YtfemplekibpfoaaGreatBoxI
import Derived.Test.YtfemplekibpfoaaGreatVanishedS
namespace Go.Proofs.YtfemplekibpfoaaGreat
open Go.RowKit
open Plain
set_option linter.unusedVariables false
set_option linter.unusedSimpArgs false


namespace Plain
def goneU (b : Bx) (since : Int) : List Int := (b.tombs.filter (fun t => decide (since < t.mod))).map (·.uid)
def goneUTo (b : Bx) (since : Int) (k : Nat) : List Int := ((b.tombs.take k).filter (fun t => decide (since < t.mod))).map (·.uid)
theorem goneU_all (b : Bx) (since : Int) : goneUTo b since b.tombs.length = goneU b since := by unfold goneUTo goneU; rw [List.take_length]
theorem goneU_yes {b : Bx} {since : Int} {k : Nat} {t : Tb} (h : b.tombs[k]? = some t) (ht : since < t.mod) : goneUTo b since (k + 1) = goneUTo b since k ++ [t.uid] := by
  unfold goneUTo
  rw [List.take_add_one, h]
  simp [List.filter_append, ht]
theorem goneU_no {b : Bx} {since : Int} {k : Nat} {t : Tb} (h : b.tombs[k]? = some t) (ht : ¬ since < t.mod) : goneUTo b since (k + 1) = goneUTo b since k := by
  unfold goneUTo
  rw [List.take_add_one, h]
  simp [List.filter_append, ht]
theorem goneU_len (b : Bx) (since : Int) (k : Nat) : (goneUTo b since k).length ≤ b.tombs.length := by
  unfold goneUTo
  have := List.length_filter_le (fun t : Tb => decide (since < t.mod)) (b.tombs.take k)
  simp at this ⊢
  omega
theorem goneL_is (b : Bx) (since : Int) : goneL b since = uidsV (goneU b since) := by
  unfold goneL uidsV goneU
  generalize b.tombs = l
  have : ∀ (l : List Tb) (s : List Rg), l.foldl (goneStep since) s = (List.map (fun x => x.uid) (l.filter (fun t => decide (since < t.mod)))).foldl addU s := by
    intro l
    induction l with
    | nil => intro s; rfl
    | cons t l ih =>
      intro s
      rw [List.foldl_cons, ih]
      by_cases h : since < t.mod
      · rw [List.filter_cons_of_pos (by simpa using h), List.map_cons, List.foldl_cons]
        unfold goneStep addU
        rw [if_pos h]
      · rw [List.filter_cons_of_neg (by simpa using h)]
        unfold goneStep
        rw [if_neg h]
  exact this l []
theorem tomb_uid {b : Bx} (h : boxOk b = true) : ∀ t ∈ b.tombs, 1 ≤ t.uid ∧ t.uid ≤ 9999 := by
  intro t ht
  obtain ⟨i, hi, rfl⟩ := List.getElem_of_mem ht
  have h1 := (boxOk_iff.1 h).2.2 i hi
  rw [tombAt_is (List.getElem?_eq_getElem hi)] at h1
  unfold tombRight at h1
  rw [Bool.and_eq_true] at h1
  have h2 := inI_iff.1 h1.1
  have h3 := inI_iff.1 (head_parts (boxOk_iff.1 h).1).2.2.1
  omega
theorem goneU_right {b : Bx} {since : Int} (h : boxOk b = true) : (goneU b since).length ≤ 40 ∧ ∀ u ∈ goneU b since, 1 ≤ u ∧ u ≤ 9999 := by
  constructor
  · have := goneU_len b since b.tombs.length
    rw [goneU_all] at this
    have := (head_parts (boxOk_iff.1 h).1).2.2.2.2.2.1
    omega
  · intro u hu
    obtain ⟨t, ht, rfl⟩ := List.mem_map.1 hu
    exact tomb_uid h t (List.mem_filter.1 ht).1
end Plain
set_option maxHeartbeats 8000000 in
set_option maxRecDepth 100000 in
theorem impl_Vanished_any (b : Bx) (m t : Value) (B : Nat) (since : Int) (w : World) (hf : FitBx b) (h : OwnBx B w m t b) :
    Calls Tryz.prog 19 #[boxV b m t, .int .i64 since] w fun e w' => ∃ v, e = .returned (.tuple #[v, .bool (vanV b since).2]) ∧ OwnR w.heap.size w' v (vanV b since).1 ∧ Below w.heap.size w w' := by
  obtain ⟨iI, hI, hI0, hI1, hI2⟩ := info_parts Tryz.infoIntR
  have hl2 := hf.tombs
  have HF := hide hf
  have HO := hide h
  have HT := hide (fun (W : World) hb k f hx => tb_read (W := W) h.2 hb (k := k) (f := f) hx)
  obtain ⟨am, cm, rfl⟩ := g_shape h.1
  obtain ⟨at1, ct1, rfl⟩ := g_shape h.2
  clear h hf
  have BB := hide (Below.refl w.heap.size w)
  obtain ⟨w1, hP⟩ : ∃ X, X = w.alloc (.cells ([.string b.name, .int .i64 b.valid, .int .i64 b.next, .int .i64 b.mod, .slice am b.mails.length cm, .slice at1 b.tombs.length ct1, .int .i64 b.hor] : List Value).toArray 27) := ⟨_, rfl⟩
  have Px : HasObj w1 w.heap.size 27 [.string b.name, .int .i64 b.valid, .int .i64 b.next, .int .i64 b.mod, .slice am b.mails.length cm, .slice at1 b.tombs.length ct1, .int .i64 b.hor] := by rw [hP]; exact HasObj.new _ _ _
  have hbn : Below w.heap.size w w1 := by rw [hP]; exact (Below.refl _ _).alloc (Nat.le_refl _) _
  have loP : w.heap.size ≤ w.heap.size := (unhide BB).size
  have EP := hP.symm
  clear hP
  have sz1 := hide (hbn.size)
  have BB_ := hide (below_y (unhide BB) hbn)
  clear BB
  have BB := BB_
  clear BB_
  clear hbn
  have P := hide Px
  clear Px
  have Pc0_1 := (unhide P).cell 0 rfl
  have Pc1_1 := (unhide P).cell 1 rfl
  have Pc2_1 := (unhide P).cell 2 rfl
  have Pc3_1 := (unhide P).cell 3 rfl
  have Pc4_1 := (unhide P).cell 4 rfl
  have Pc5_1 := (unhide P).cell 5 rfl
  have Pc6_1 := (unhide P).cell 6 rfl
  go_enter Tryz.func19, Tryz.ntmps19
  go_wp2_with fail
  clear Pc0_1 Pc1_1 Pc2_1 Pc3_1 Pc4_1 Pc5_1 Pc6_1 EP
  refine (impl_BoxOk_any b _ _ B _ (unhide HF) ((unhide HO).up (unhide BB))).mono ?_
  rintro e w2 ⟨rfl, hb⟩
  have P_ := hide ((unhide P).ups hb)
  clear P
  have P := P_
  clear P_
  have sz2 := hide (hb.size)
  have BB_ := hide (below_y (unhide BB) hb)
  clear BB
  have BB := BB_
  clear BB_
  clear hb
  have Pc0_2 := (unhide P).cell 0 rfl
  have Pc1_2 := (unhide P).cell 1 rfl
  have Pc2_2 := (unhide P).cell 2 rfl
  have Pc3_2 := (unhide P).cell 3 rfl
  have Pc4_2 := (unhide P).cell 4 rfl
  have Pc5_2 := (unhide P).cell 5 rfl
  have Pc6_2 := (unhide P).cell 6 rfl
  cases hq1 : boxOk b with
  | false =>
    have V := hide (vanV_no1 (since := since) hq1)
    clear hq1
    go_wp2
    go_returns
    exact ⟨_, by rw [unhide V]; rfl, by rw [unhide V]; exact World.ownsRow_nil _ _ _ _, unhide BB⟩
  | true =>
    by_cases hh : since < b.hor
    · have V := hide (vanV_no2 hh)
      have dh : decide (since < b.hor) = true := decide_eq_true hh
      clear hq1 hh
      go_wp2
      go_returns
      exact ⟨_, by rw [unhide V]; rfl, by rw [unhide V]; exact World.ownsRow_nil _ _ _ _, unhide BB⟩
    have V := hide (vanV_yes hq1 hh)
    have dh : decide (since < b.hor) = false := decide_eq_false hh
    have GR := hide (goneU_right (since := since) hq1)
    clear hq1 hh
    go_wp2
    clear Pc0_2 Pc1_2 Pc2_2 Pc3_2 Pc4_2 Pc5_2 Pc6_2
    go_loopw [6, 21] (fun v i wr => ∃ k : Nat, k ≤ b.tombs.length ∧ i = .int .i64 k ∧ HasObj wr w.heap.size 27 [.string b.name, .int .i64 b.valid, .int .i64 b.next, .int .i64 b.mod, .slice am b.mails.length cm, .slice at1 b.tombs.length ct1, .int .i64 b.hor] ∧ OwnI w.heap.size wr v (goneUTo b since k) ∧ Below w.heap.size w wr) (fun _ i _ => b.tombs.length - (intOf i).toNat)
    case atStart => exact ⟨0, Nat.zero_le _, rfl, unhide P, OwnI.nil _ _, unhide BB⟩
    clear P BB
    case round =>
      obtain ⟨k, hk, rfl, hP, hown, hbel⟩ := hrel
      obtain ⟨wo, hwo⟩ : ∃ wo, wo = wr := ⟨_, rfl⟩
      subst hwo
      by_cases hlt : k < b.tombs.length
      · have hgk : b.tombs[k]? = some b.tombs[k] := List.getElem?_eq_getElem hlt
        obtain ⟨av, cv, rfl⟩ := g_shape hown
        obtain ⟨g, c, e, hg, c0, c1⟩ := unhide HT wo hbel k _ hgk
        cases e
        have YES := hide (fun h => goneU_yes (since := since) hgk h)
        have NO := hide (fun h => goneU_no (since := since) hgk h)
        have LN := goneU_len b since k
        generalize b.tombs[k] = f at *
        have i1 : (0 : Int) ≤ (k : Int) := by omega
        have i2 : (k : Int) < (b.tombs.length : Int) := by omega
        have P := hide hP
        have OI := hide hown
        have BB := hide hbel
        clear hP hown hbel hgk
        obtain ⟨wr3, hT⟩ : ∃ X, X = wo.alloc (.cells ([.int .i64 f.uid, .int .i64 f.mod] : List Value).toArray 90) := ⟨_, rfl⟩
        have Tx : HasObj wr3 wo.heap.size 90 [.int .i64 f.uid, .int .i64 f.mod] := by rw [hT]; exact HasObj.new _ _ _
        have hbn : Below wo.heap.size wo wr3 := by rw [hT]; exact (Below.refl _ _).alloc (Nat.le_refl _) _
        have nePT : w.heap.size ≠ wo.heap.size := Nat.ne_of_lt (unhide P).lt
        have loT : w.heap.size ≤ wo.heap.size := (unhide BB).size
        have ET := hT.symm
        clear hT
        have P_ := hide ((unhide P).ups hbn)
        clear P
        have P := P_
        clear P_
        have OI_ := hide ((unhide OI).up hbn)
        clear OI
        have OI := OI_
        clear OI_
        have sz3 := hide (hbn.size)
        have BB_ := hide (below_y (unhide BB) hbn)
        clear BB
        have BB := BB_
        clear BB_
        clear hbn
        have T := hide Tx
        clear Tx
        have Tc0_3 := (unhide T).cell 0 rfl
        have Tc1_3 := (unhide T).cell 1 rfl
        by_cases hm : since < f.mod
        · have dm : decide (since < f.mod) = true := decide_eq_true hm
          have NX := hide (unhide YES hm)
          clear YES NO hm
          have lw4 := (unhide BB).size
          go_wp2_with (at_builtin; refine wpList_append_own _ rfl _ _ 40 rfl w.heap.size 3 iI _ 1 8 Tryz.underlying40 hI hI0 hI1 hI2 rfl (by decide) _ _ _ rfl (World.ownsRow.alloc (unhide OI) _) ⟨wr3.heap.size, 0, none⟩ 1 1 [.int .i64 (f.uid)] rfl rfl (newsC _ _) ?c2 ?c3 ?c4 ?c5 ?_)
          clear Tc0_3 Tc1_3 ET
          case c2 => intro u hu; simp [mlC, tbC, rgl] at hu; (try rcases hu with rfl | rfl | rfl | rfl) <;> (try rcases hu with rfl | rfl) <;> (try subst hu) <;> rfl
          case c3 => unfold maxLen; omega
          case c4 => omega
          case c5 => have q1_ := (unhide BB).size; have sz1_ := unhide sz1; have sz2_ := unhide sz2; have sz3_ := unhide sz3; simp; omega
          intro vOI4 wr4 hown hgr _
          have oa := World.ownsRow.alloc (unhide OI) (.cells ([.int .i64 (f.uid)] : List Value).toArray 3)
          have P_ := hide (((unhide P).alloc (.cells ([.int .i64 (f.uid)] : List Value).toArray 3)).kept hgr (fun e => ((unhide P).alloc (.cells ([.int .i64 (f.uid)] : List Value).toArray 3)).not_row (by decide) oa e.symm))
          have T_ := hide (((unhide T).alloc (.cells ([.int .i64 (f.uid)] : List Value).toArray 3)).kept hgr (fun e => ((unhide T).alloc (.cells ([.int .i64 (f.uid)] : List Value).toArray 3)).not_row (by decide) oa e.symm))
          have OI_ : Hid (OwnI w.heap.size wr4 vOI4 (goneUTo b since (k + 1))) := by show OwnI _ _ _ _; rw [unhide NX]; exact OwnI.snoc hown
          have BB_ : Hid (Below w.heap.size w wr4) := ((unhide BB).alloc (unhide BB).size _).grown hgr (by have q1_ := (unhide BB).size; simp; omega) (fun b hb => by have q2_ := (World.ownsRow.lt (unhide OI) b hb).1; have q1_ := (unhide BB).size; have sz1_ := unhide sz1; have sz2_ := unhide sz2; have sz3_ := unhide sz3; omega)
          have sz4 : Hid (wr3.heap.size ≤ wr4.heap.size) := by have q3_ := hgr.size; simp at q3_; show _ ≤ _; omega
          clear P
          have P := P_
          clear P_
          clear T
          have T := T_
          clear T_
          clear OI
          have OI := OI_
          clear OI_
          clear BB
          have BB := BB_
          clear BB_
          clear hown hgr oa lw4
          clear c0 c1
          go_wp2
          go_roundw
          case rel => exact ⟨k + 1, by omega, by go_num, unhide P, unhide OI, unhide BB⟩
          case measure => simp [intOf]; omega
        · have dm : decide (since < f.mod) = false := decide_eq_false hm
          have NX := hide (unhide NO hm)
          clear YES NO hm
          go_wp2
          go_roundw
          case rel => exact ⟨k + 1, by omega, by go_num, unhide P, by rw [unhide NX]; exact unhide OI, unhide BB⟩
          case measure => simp [intOf]; omega
      · obtain rfl : k = b.tombs.length := by omega
        rw [goneU_all] at hown
        have US := hide (uidSet_any (goneU b since) _ w.heap.size wo (unhide GR).1 (unhide GR).2 hown)
        have BB := hide hbel
        clear hP hown hbel
        go_wp2_with fail
        refine (unhide US).mono ?_
        rintro e w9 ⟨u, rfl, ou, hb⟩
        have OU := hide ou
        have B9 := hide (below_y (unhide BB) hb)
        clear ou hb
        go_wp2
        go_returns
        exact ⟨_, by rw [unhide V]; rfl, by rw [unhide V, goneL_is]; exact g_based (unhide OU) (unhide BB).size, unhide B9⟩
end Go.Proofs.YtfemplekibpfoaaGreat
