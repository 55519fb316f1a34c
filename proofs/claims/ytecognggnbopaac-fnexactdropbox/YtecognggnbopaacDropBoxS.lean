/- The specification's DropBox. Made by gen_stores.py. -/
import Derived.Test.YtecognggnbopaacDropPlain
import Derived.Test.YtecognggnbopaacStoreS
namespace Go.Proofs.Ytecognggnbopaac
open Go.RowKit
open Plain
set_option linter.unusedVariables false
set_option linter.unusedSimpArgs false

theorem drop_map (KL : List Lb) (name : ByteArray) (l : List Bx) (h : KL.map (·.b) = l) : (KL.filter (fun x => !sameN name x.b)).map (·.b) = dropL l name := by
  subst h
  unfold dropL
  rw [List.filter_map]
  rfl
theorem drop_take {KL : List Lb} {k : Nat} {x : Lb} {name : ByteArray} (h : KL[k]? = some x) : (KL.take (k + 1)).filter (fun x => !sameN name x.b) = (KL.take k).filter (fun x => !sameN name x.b) ++ (if sameN name x.b = true then [] else [x]) := by
  rw [take_snoc h, List.filter_append]
  cases h2 : sameN name x.b <;> simp [List.filter_cons, h2]
set_option maxHeartbeats 8000000 in
set_option maxRecDepth 100000 in
theorem spec_DropBox_any (s : Sx) (name : ByteArray) (v : Value) (B : Nat) (w : World) (hf : FitSt s) (hz : name.size ≤ 1048576) (h : ReadSt B w v s.boxes) :
    Calls Try.prog 13 #[.agg #[v, .int .i64 s.valid], .string name] w fun e w' => ∃ v', e = .returned (.tuple #[.agg #[v', .int .i64 (dropV s name).1.valid], .int .i64 (dropV s name).2]) ∧ ReadSt w.heap.size w' v' (dropV s name).1.boxes ∧ Below w.heap.size w w' := by
  obtain ⟨iX, hX, hX0, hX1, hX2⟩ := info_parts Try.infoBox
  have FT := hide hf
  obtain ⟨L, hL, h⟩ := h
  obtain ⟨a1, c1, rfl⟩ := g_shape h.row
  obtain ⟨n, hn⟩ : ∃ n, n = s.boxes.length := ⟨_, rfl⟩
  have hn1 : L.length = n := by rw [hn, ← hL, List.length_map]
  have hnl := hf.len
  rw [← hn] at hnl
  have S1 := hide h
  rw [hn1] at S1 ⊢
  have FE := hide hf.each
  have HL := hide hL
  have HN := hide hn
  have HN1 := hide hn1
  clear h hL hn hn1 hf
  have BB := hide (Below.refl w.heap.size w)
  obtain ⟨ws1, hA⟩ : ∃ X, X = w.alloc (.cells ([.slice a1 n c1, .int .i64 s.valid] : List Value).toArray 28) := ⟨_, rfl⟩
  have Ax : HasObj ws1 w.heap.size 28 [.slice a1 n c1, .int .i64 s.valid] := by rw [hA]; exact HasObj.new _ _ _
  have hbn : Below w.heap.size w ws1 := by rw [hA]; exact (Below.refl _ _).alloc (Nat.le_refl _) _
  have loA : w.heap.size ≤ w.heap.size := (unhide BB).size
  have EA := hA.symm
  clear hA
  have S1_ := hide ((unhide S1).up hbn)
  clear S1
  have S1 := S1_
  clear S1_
  have sz1 := hide (hbn.size)
  have BB_ := hide (below_y (unhide BB) hbn)
  clear BB
  have BB := BB_
  clear BB_
  clear hbn
  have A := hide Ax
  clear Ax
  obtain ⟨ws2, hR⟩ : ∃ X, X = ws1.alloc (.cells ([.slice none 0 0, .int .i64 0] : List Value).toArray 28) := ⟨_, rfl⟩
  have Rx : HasObj ws2 ws1.heap.size 28 [.slice none 0 0, .int .i64 0] := by rw [hR]; exact HasObj.new _ _ _
  have hbn : Below ws1.heap.size ws1 ws2 := by rw [hR]; exact (Below.refl _ _).alloc (Nat.le_refl _) _
  have neAR : w.heap.size ≠ ws1.heap.size := Nat.ne_of_lt (unhide A).lt
  have loR : w.heap.size ≤ ws1.heap.size := (unhide BB).size
  have ER := hR.symm
  clear hR
  have A_ := hide ((unhide A).ups hbn)
  clear A
  have A := A_
  clear A_
  have S1_ := hide ((unhide S1).up hbn)
  clear S1
  have S1 := S1_
  clear S1_
  have sz2 := hide (hbn.size)
  have BB_ := hide (below_y (unhide BB) hbn)
  clear BB
  have BB := BB_
  clear BB_
  clear hbn
  have R := hide Rx
  clear Rx
  have Ac0_1 := (unhide A).cell 0 rfl
  have Ac1_1 := (unhide A).cell 1 rfl
  go_enter Try.func13, Try.ntmps13
  go_wp2_with fail
  clear Ac0_1 Ac1_1 EA ER
  have LO : Hid (w.heap.size ≤ ws2.heap.size) := (unhide BB).size
  refine (l09Copy_any s _ _ _ (unhide FT) ⟨L, unhide HL, unhide S1⟩).mono ?_
  rintro e ws3 ⟨v9, rfl, oS, hb⟩
  obtain ⟨KL, hK, oK⟩ := oS
  obtain ⟨ak, ck, rfl⟩ := g_shape oK.row
  have hnK : KL.length = n := by rw [unhide HN, ← hK, List.length_map]
  have SK_ := hide (oK.based (unhide LO))
  rw [hnK] at SK_ ⊢
  have HK := hide hK
  have HNK := hide hnK
  clear oK hK hnK
  have A_ := hide ((unhide A).ups hb)
  clear A
  have A := A_
  clear A_
  have R_ := hide ((unhide R).ups hb)
  clear R
  have R := R_
  clear R_
  have S1_ := hide ((unhide S1).up hb)
  clear S1
  have S1 := S1_
  clear S1_
  have sz3 := hide (hb.size)
  have BB_ := hide (below_y (unhide BB) hb)
  clear BB
  have BB := BB_
  clear BB_
  clear hb
  have SK := SK_
  clear SK_
  obtain ⟨ws4, hS⟩ : ∃ X, X = ws3.alloc (.cells ([.slice ak n ck, .int .i64 s.valid] : List Value).toArray 28) := ⟨_, rfl⟩
  have Sx : HasObj ws4 ws3.heap.size 28 [.slice ak n ck, .int .i64 s.valid] := by rw [hS]; exact HasObj.new _ _ _
  have hbn : Below ws3.heap.size ws3 ws4 := by rw [hS]; exact (Below.refl _ _).alloc (Nat.le_refl _) _
  have neAS : w.heap.size ≠ ws3.heap.size := Nat.ne_of_lt (unhide A).lt
  have neRS : ws1.heap.size ≠ ws3.heap.size := Nat.ne_of_lt (unhide R).lt
  have loS : w.heap.size ≤ ws3.heap.size := (unhide BB).size
  have ES := hS.symm
  clear hS
  have A_ := hide ((unhide A).ups hbn)
  clear A
  have A := A_
  clear A_
  have R_ := hide ((unhide R).ups hbn)
  clear R
  have R := R_
  clear R_
  have S1_ := hide ((unhide S1).up hbn)
  clear S1
  have S1 := S1_
  clear S1_
  have SK_ := hide ((unhide SK).up hbn)
  clear SK
  have SK := SK_
  clear SK_
  have sz4 := hide (hbn.size)
  have BB_ := hide (below_y (unhide BB) hbn)
  clear BB
  have BB := BB_
  clear BB_
  clear hbn
  have S := hide Sx
  clear Sx
  have Ac0_2 := (unhide A).cell 0 rfl
  have Ac1_2 := (unhide A).cell 1 rfl
  go_wp2_with fail
  clear Ac0_2 Ac1_2 ES
  refine (spec_StoreOk_any s _ _ _ (unhide FT) ⟨L, unhide HL, unhide S1⟩).mono ?_
  rintro e ws5 ⟨rfl, hb⟩
  have A_ := hide ((unhide A).ups hb)
  clear A
  have A := A_
  clear A_
  have R_ := hide ((unhide R).ups hb)
  clear R
  have R := R_
  clear R_
  have S_ := hide ((unhide S).ups hb)
  clear S
  have S := S_
  clear S_
  have S1_ := hide ((unhide S1).up hb)
  clear S1
  have S1 := S1_
  clear S1_
  have SK_ := hide ((unhide SK).up hb)
  clear SK
  have SK := SK_
  clear SK_
  have sz5 := hide (hb.size)
  have BB_ := hide (below_y (unhide BB) hb)
  clear BB
  have BB := BB_
  clear BB_
  clear hb
  cases h1 : storeOk s with
  | false =>
    have ANS : Hid (dropV s name = (s, 4)) := dropV_bad1 h1
    have Sc0_3 := (unhide S).cell 0 rfl
    have Sc1_3 := (unhide S).cell 1 rfl
    have Rf0 := (unhide R).frozen 0
    have Rf1 := (unhide R).frozen 1
    have Re0 := (unhide R).cell 0 rfl
    have Re1 := (unhide R).cell 1 rfl
    have F := hide (fill2 (unhide R) (.slice ak n ck) (.int .i64 s.valid))
    obtain ⟨U, hU⟩ : ∃ U, U = ((ws5.setCell ⟨ws1.heap.size, 0, none⟩ (.slice ak n ck)).setCell ⟨ws1.heap.size, 1, none⟩ (.int .i64 s.valid)) := ⟨_, rfl⟩
    have F9 := unhide F
    rw [← hU] at F9
    have EU := hU.symm
    clear F hU
    have v0 := F9.obj.cell 0 rfl
    have v1 := F9.obj.cell 1 rfl
    have F := hide F9
    clear F9
    go_wp2_with (refine bodyPost_ret (by simp [results, Try.results13, go_sem, v0, v1]; try rfl) rfl ?_)
    clear EU
    have F := unhide F
    rw [unhide ANS]
    exact ⟨_, rfl, ⟨KL, unhide HK, ⟨F.row (by decide) (unhide SK).row, fun x hx => ⟨F.row (by decide) ((unhide SK).each x hx).1, F.row (by decide) ((unhide SK).each x hx).2⟩⟩⟩, F.below loR (unhide BB)⟩
  | true =>
    cases h2 : (name.toList == [105, 110, 98, 111, 120]) with
    | true =>
      have ANS : Hid (dropV s name = (s, 4)) := dropV_bad2 (is_inbox h2)
      have Sc0_3 := (unhide S).cell 0 rfl
      have Sc1_3 := (unhide S).cell 1 rfl
      have Rf0 := (unhide R).frozen 0
      have Rf1 := (unhide R).frozen 1
      have Re0 := (unhide R).cell 0 rfl
      have Re1 := (unhide R).cell 1 rfl
      have F := hide (fill2 (unhide R) (.slice ak n ck) (.int .i64 s.valid))
      obtain ⟨U, hU⟩ : ∃ U, U = ((ws5.setCell ⟨ws1.heap.size, 0, none⟩ (.slice ak n ck)).setCell ⟨ws1.heap.size, 1, none⟩ (.int .i64 s.valid)) := ⟨_, rfl⟩
      have F9 := unhide F
      rw [← hU] at F9
      have EU := hU.symm
      clear F hU
      have v0 := F9.obj.cell 0 rfl
      have v1 := F9.obj.cell 1 rfl
      have F := hide F9
      clear F9
      go_wp2_with (refine bodyPost_ret (by simp [results, Try.results13, go_sem, v0, v1]; try rfl) rfl ?_)
      clear EU
      have F := unhide F
      rw [unhide ANS]
      exact ⟨_, rfl, ⟨KL, unhide HK, ⟨F.row (by decide) (unhide SK).row, fun x hx => ⟨F.row (by decide) ((unhide SK).each x hx).1, F.row (by decide) ((unhide SK).each x hx).2⟩⟩⟩, F.below loR (unhide BB)⟩
    | false =>
      have H1 := hide h1
      have H2 := hide (not_inbox h2)
      have Ac0_3 := (unhide A).cell 0 rfl
      have Ac1_3 := (unhide A).cell 1 rfl
      go_wp2_with fail
      clear Ac0_3 Ac1_3
      have LOX : Hid (w.heap.size ≤ ws5.heap.size) := (unhide BB).size
      refine (spec_BoxAt_any s name _ _ _ (unhide FT) ⟨L, unhide HL, unhide S1⟩).mono ?_
      rintro e ws6 ⟨mX, tX, rfl, oX, hb⟩
      obtain ⟨zX, okX, hzX⟩ : ∃ z ok, (z, ok) = atV s name := ⟨_, _, rfl⟩
      rw [← hzX] at oX ⊢
      simp only at oX ⊢
      have ATX := hide hzX
      obtain ⟨amX, cmX, rfl⟩ := g_shape oX.1
      obtain ⟨atX, ctX, rfl⟩ := g_shape oX.2
      clear oX hzX h2 h1
      clear S1
      have A_ := hide ((unhide A).ups hb)
      clear A
      have A := A_
      clear A_
      have R_ := hide ((unhide R).ups hb)
      clear R
      have R := R_
      clear R_
      have S_ := hide ((unhide S).ups hb)
      clear S
      have S := S_
      clear S_
      have SK_ := hide ((unhide SK).up hb)
      clear SK
      have SK := SK_
      clear SK_
      have sz6 := hide (hb.size)
      have BB_ := hide (below_y (unhide BB) hb)
      clear BB
      have BB := BB_
      clear BB_
      clear hb
      obtain ⟨ws7, hX⟩ : ∃ X, X = ws6.alloc (.cells ([.string zX.name, .int .i64 zX.valid, .int .i64 zX.next, .int .i64 zX.mod, .slice amX zX.mails.length cmX, .slice atX zX.tombs.length ctX, .int .i64 zX.hor] : List Value).toArray 53) := ⟨_, rfl⟩
      have Xx : HasObj ws7 ws6.heap.size 53 [.string zX.name, .int .i64 zX.valid, .int .i64 zX.next, .int .i64 zX.mod, .slice amX zX.mails.length cmX, .slice atX zX.tombs.length ctX, .int .i64 zX.hor] := by rw [hX]; exact HasObj.new _ _ _
      have hbn : Below ws6.heap.size ws6 ws7 := by rw [hX]; exact (Below.refl _ _).alloc (Nat.le_refl _) _
      have neAX : w.heap.size ≠ ws6.heap.size := Nat.ne_of_lt (unhide A).lt
      have neRX : ws1.heap.size ≠ ws6.heap.size := Nat.ne_of_lt (unhide R).lt
      have neSX : ws3.heap.size ≠ ws6.heap.size := Nat.ne_of_lt (unhide S).lt
      have loX : w.heap.size ≤ ws6.heap.size := (unhide BB).size
      have EX := hX.symm
      clear hX
      have A_ := hide ((unhide A).ups hbn)
      clear A
      have A := A_
      clear A_
      have R_ := hide ((unhide R).ups hbn)
      clear R
      have R := R_
      clear R_
      have S_ := hide ((unhide S).ups hbn)
      clear S
      have S := S_
      clear S_
      have SK_ := hide ((unhide SK).up hbn)
      clear SK
      have SK := SK_
      clear SK_
      have sz7 := hide (hbn.size)
      have BB_ := hide (below_y (unhide BB) hbn)
      clear BB
      have BB := BB_
      clear BB_
      clear hbn
      have X := hide Xx
      clear Xx
      cases okX with
      | false =>
        have ANS : Hid (dropV s name = (s, 1)) := dropV_none (unhide H1) (unhide H2) (atV_no (unhide ATX))
        have Sc0_4 := (unhide S).cell 0 rfl
        have Sc1_4 := (unhide S).cell 1 rfl
        have Rf0 := (unhide R).frozen 0
        have Rf1 := (unhide R).frozen 1
        have Re0 := (unhide R).cell 0 rfl
        have Re1 := (unhide R).cell 1 rfl
        have F := hide (fill2 (unhide R) (.slice ak n ck) (.int .i64 s.valid))
        obtain ⟨U, hU⟩ : ∃ U, U = ((ws7.setCell ⟨ws1.heap.size, 0, none⟩ (.slice ak n ck)).setCell ⟨ws1.heap.size, 1, none⟩ (.int .i64 s.valid)) := ⟨_, rfl⟩
        have F9 := unhide F
        rw [← hU] at F9
        have EU := hU.symm
        clear F hU
        have v0 := F9.obj.cell 0 rfl
        have v1 := F9.obj.cell 1 rfl
        have F := hide F9
        clear F9
        go_wp2_with (refine bodyPost_ret (by simp [results, Try.results13, go_sem, v0, v1]; try rfl) rfl ?_)
        clear EU
        have F := unhide F
        rw [unhide ANS]
        exact ⟨_, rfl, ⟨KL, unhide HK, ⟨F.row (by decide) (unhide SK).row, fun x hx => ⟨F.row (by decide) ((unhide SK).each x hx).1, F.row (by decide) ((unhide SK).each x hx).2⟩⟩⟩, F.below loR (unhide BB)⟩
      | true =>
        have BX := hide (atV_yes (unhide ATX))
        have Ac0_4 := (unhide A).cell 0 rfl
        have Ac1_4 := (unhide A).cell 1 rfl
        obtain ⟨ws8, hO⟩ : ∃ X, X = ws7.alloc (.cells ([.slice none 0 0, .int .i64 s.valid] : List Value).toArray 28) := ⟨_, rfl⟩
        have Ox : HasObj ws8 ws7.heap.size 28 [.slice none 0 0, .int .i64 s.valid] := by rw [hO]; exact HasObj.new _ _ _
        have hbn : Below ws7.heap.size ws7 ws8 := by rw [hO]; exact (Below.refl _ _).alloc (Nat.le_refl _) _
        have neAO : w.heap.size ≠ ws7.heap.size := Nat.ne_of_lt (unhide A).lt
        have neRO : ws1.heap.size ≠ ws7.heap.size := Nat.ne_of_lt (unhide R).lt
        have neSO : ws3.heap.size ≠ ws7.heap.size := Nat.ne_of_lt (unhide S).lt
        have neXO : ws6.heap.size ≠ ws7.heap.size := Nat.ne_of_lt (unhide X).lt
        have loO : w.heap.size ≤ ws7.heap.size := (unhide BB).size
        have EO := hO.symm
        clear hO
        have A_ := hide ((unhide A).ups hbn)
        clear A
        have A := A_
        clear A_
        have R_ := hide ((unhide R).ups hbn)
        clear R
        have R := R_
        clear R_
        have S_ := hide ((unhide S).ups hbn)
        clear S
        have S := S_
        clear S_
        have X_ := hide ((unhide X).ups hbn)
        clear X
        have X := X_
        clear X_
        have SK_ := hide ((unhide SK).up hbn)
        clear SK
        have SK := SK_
        clear SK_
        have sz8 := hide (hbn.size)
        have BB_ := hide (below_y (unhide BB) hbn)
        clear BB
        have BB := BB_
        clear BB_
        clear hbn
        have O := hide Ox
        clear Ox
        have OR1 : Hid (OwnBr w.heap.size ws8 (.slice ak n ck) KL) := (unhide SK).row
        have EB1 : Hid (EachB w.heap.size ws8 KL) := (unhide SK).each
        have LTS : Hid (∀ g, Value.ownBlock (.slice ak n ck) = some g → g < ws8.heap.size) := fun g hg => (World.ownsRow.lt (unhide OR1) g hg).2
        clear SK
        have szL : Hid (w.heap.size ≤ ws8.heap.size) := (unhide BB).size
        have Sc0_5 := (unhide S).cell 0 rfl
        have Sc1_5 := (unhide S).cell 1 rfl
        have Oc0_6 := (unhide O).cell 0 rfl
        have Oc1_6 := (unhide O).cell 1 rfl
        go_wp2
        clear Ac0_4 Ac1_4 Sc0_5 Sc1_5 Oc0_6 Oc1_6 EX EO
        obtain ⟨REL, HREL⟩ : ∃ REL : Value → World → Prop, Hid (REL = fun i wr => ∃ (k : Nat) (L2 : List Lb) (a2 : Option Addr) (c2 : Nat), k ≤ n ∧ i = .int .i64 k ∧ L2 = (KL.take k).filter (fun x => !sameN name x.b) ∧ HasObj wr (ws1.heap.size) 28 [.slice none 0 0, .int .i64 0] ∧ HasObj wr (ws3.heap.size) 28 [.slice ak n ck, .int .i64 s.valid] ∧ HasObj wr (ws7.heap.size) 28 [.slice a2 L2.length c2, .int .i64 s.valid] ∧ OwnBr w.heap.size wr (.slice ak n ck) KL ∧ EachB w.heap.size wr KL ∧ OwnBr ws8.heap.size wr (.slice a2 L2.length c2) L2 ∧ Below w.heap.size w wr ∧ ws8.heap.size ≤ wr.heap.size) := ⟨_, rfl⟩
        go_loopw [10] (fun i wr => REL i wr) (fun i _ => n - (intOf i).toNat)
        case atStart => rw [unhide HREL]; exact ⟨0, [], none, 0, Nat.zero_le _, rfl, by simp, unhide R, unhide S, unhide O, unhide OR1, unhide EB1, World.ownsRow_nil _ _ _ _, unhide BB, Nat.le_refl _⟩
        clear OR1 EB1 BB A R O S X
        case round =>
          rw [unhide HREL] at hrel
          obtain ⟨k, L2, a2, c2, hk, rfl, hL2, oR, oS, oO, o1, oe, o2, hbel, hsz⟩ := hrel
          obtain ⟨wo, hwo⟩ : ∃ wo, wo = wr := ⟨_, rfl⟩
          subst hwo
          have HL2 := hide hL2
          clear hL2
          by_cases hlt : k < n
          · have hkl : k < KL.length := by rw [unhide HNK]; exact hlt
            have hx : KL[k]? = some KL[k] := List.getElem?_eq_getElem hkl
            have hmx := List.getElem_mem hkl
            obtain ⟨g1, q1, e3, _, _, _⟩ := br_read o1 hx
            have e5 := (Value.slice.inj e3).1
            clear e3
            subst e5
            generalize KL[k] = x at *
            obtain ⟨b, m, t⟩ := x
            obtain ⟨am, cm, ee1⟩ := g_shape (oe _ hmx).1
            obtain ⟨at1, ct1, ee2⟩ := g_shape (oe _ hmx).2
            simp only at ee1 ee2
            subst ee1 ee2
            have R := hide oR
            have S := hide oS
            have O := hide oO
            have OR1 := hide o1
            have EB1 := hide oe
            have OR2 := hide o2
            have BB := hide hbel
            have X1 := hide hx
            have szq := hide hsz
            have NX := hide (drop_take (name := name) hx)
            have HLK : Hid (L2.length ≤ k) := by show _ ≤ _; rw [unhide HL2]; exact Nat.le_trans (List.length_filter_le _ _) (by rw [List.length_take]; omega)
            clear oR oS oO o1 oe o2 hbel hx hmx hsz
            have i1 : (0 : Int) ≤ (k : Int) := by omega
            have i2 : (k : Int) < (n : Int) := by omega
            have ec0 := (br_of (unhide OR1) (unhide X1)).1
            simp only at ec0
            have Sc0_7 := (unhide S).cell 0 rfl
            have Sc1_7 := (unhide S).cell 1 rfl
            cases hd : (b.name.toList == name.toList) with
            | true =>
              have NX2 : Hid (L2 = (KL.take (k + 1)).filter (fun x => !sameN name x.b)) := by show _ = _; rw [unhide NX, if_pos (show sameN name b = true from hd), List.append_nil]; exact unhide HL2
              go_wp2
              go_roundw
              case rel => rw [unhide HREL]; exact ⟨k + 1, L2, _, _, by omega, by go_num, unhide NX2, unhide R, unhide S, unhide O, unhide OR1, unhide EB1, unhide OR2, unhide BB, (by show _ ≤ _; have szL_ := unhide szL; have szq_ := unhide szq; omega)⟩
              case measure => simp [intOf]; omega
            | false =>
              have Oc0_8 := (unhide O).cell 0 rfl
              have Oc1_8 := (unhide O).cell 1 rfl
              go_wp2
              clear ec0 Sc0_7 Sc1_7 Oc0_8 Oc1_8
              have NX2 : Hid (L2 ++ [(⟨b, .slice am b.mails.length cm, .slice at1 b.tombs.length ct1⟩ : Lb)] = (KL.take (k + 1)).filter (fun x => !sameN name x.b)) := by show _ = _; rw [unhide NX, if_neg (show ¬ (sameN name b = true) from by show ¬ ((b.name.toList == name.toList) = true); rw [hd]; decide), ← unhide HL2]
              clear hd
              refine lateBegin (S := fun w' => w'.cell? ⟨ws3.heap.size, 0, none⟩ = some (.slice (some ⟨g1, 0, none⟩) n ck) ∧ w'.cell? ⟨ws7.heap.size, 0, none⟩ = some (.slice a2 L2.length c2) ∧ w'.cell? ⟨g1, k * 7, none⟩ = some (.string b.name) ∧ w'.cell? ⟨g1, k * 7 + 1, none⟩ = some (.int .i64 b.valid) ∧ w'.cell? ⟨g1, k * 7 + 2, none⟩ = some (.int .i64 b.next) ∧ w'.cell? ⟨g1, k * 7 + 3, none⟩ = some (.int .i64 b.mod) ∧ w'.cell? ⟨g1, k * 7 + 4, none⟩ = some (.slice am b.mails.length cm) ∧ w'.cell? ⟨g1, k * 7 + 5, none⟩ = some (.slice at1 b.tombs.length ct1) ∧ w'.cell? ⟨g1, k * 7 + 6, none⟩ = some (.int .i64 b.hor)) 10 (by kernel_rfl) (⟨(unhide S).cell 0 rfl, (unhide O).cell 0 rfl, (br_of (unhide OR1) (unhide X1)).1, (br_of (unhide OR1) (unhide X1)).2.1, (br_of (unhide OR1) (unhide X1)).2.2.1, (br_of (unhide OR1) (unhide X1)).2.2.2.1, (br_of (unhide OR1) (unhide X1)).2.2.2.2.1, (br_of (unhide OR1) (unhide X1)).2.2.2.2.2.1, (br_of (unhide OR1) (unhide X1)).2.2.2.2.2.2⟩) (fun hHeld => ?_)
              have R_ := hide ((unhide R).drew)
              clear R
              have R := R_
              clear R_
              have S_ := hide ((unhide S).drew)
              clear S
              have S := S_
              clear S_
              have O_ := hide ((unhide O).drew)
              clear O
              have O := O_
              clear O_
              have OR1_ := hide ((unhide OR1).drew)
              clear OR1
              have OR1 := OR1_
              clear OR1_
              have EB1_ := hide ((unhide EB1).drew)
              clear EB1
              have EB1 := EB1_
              clear EB1_
              have OR2_ := hide ((unhide OR2).drew)
              clear OR2
              have OR2 := OR2_
              clear OR2_
              have BB_ := hide ((unhide BB).drew)
              clear BB
              have BB := BB_
              clear BB_
              have sz101 : Hid (wo.heap.size ≤ wo.drew.heap.size) := Nat.le_refl _
              refine lateTake 0 (some 48) ?_ rfl (by kernel_rfl) (by kernel_rfl) (by kernel_rfl) (by kernel_rfl) rfl (fun _ _ _ h => h) (by rfl) (by assumption) ?_ ?_
              rotate_left
              · (intro w hSw; (try dsimp only at hSw); go_simp <;> with_reducible rfl)
              simp only [Act.put, List.setIfInBounds_toArray, List.set_cons_zero, List.set_cons_succ]
              refine lateTake 1 (some 49) ?_ rfl (by kernel_rfl) (by kernel_rfl) (by kernel_rfl) (by kernel_rfl) rfl (fun _ _ _ h => h) (by rfl) (by assumption) ?_ ?_
              rotate_left
              · (intro w hSw; (try dsimp only at hSw); go_simp <;> with_reducible rfl)
              simp only [Act.put, List.setIfInBounds_toArray, List.set_cons_zero, List.set_cons_succ]
              refine lateTake 2 (some 50) ?_ rfl (by kernel_rfl) (by kernel_rfl) (by kernel_rfl) (by kernel_rfl) rfl (fun _ _ _ h => h) (by rfl) (by assumption) ?_ ?_
              rotate_left
              · (intro w hSw; (try dsimp only at hSw); go_simp <;> with_reducible rfl)
              simp only [Act.put, List.setIfInBounds_toArray, List.set_cons_zero, List.set_cons_succ]
              refine lateTake 3 (some 51) ?_ rfl (by kernel_rfl) (by kernel_rfl) (by kernel_rfl) (by kernel_rfl) rfl (fun _ _ _ h => h) (by rfl) (by assumption) ?_ ?_
              rotate_left
              · (intro w hSw; (try dsimp only at hSw); go_simp <;> with_reducible rfl)
              simp only [Act.put, List.setIfInBounds_toArray, List.set_cons_zero, List.set_cons_succ]
              refine lateTake 4 (some 52) ?_ rfl (by kernel_rfl) (by kernel_rfl) (by kernel_rfl) (by kernel_rfl) rfl (fun _ _ _ h => h) (by rfl) (by assumption) ?_ ?_
              rotate_left
              · (intro w hSw; (try dsimp only at hSw); go_simp <;> with_reducible rfl)
              simp only [Act.put, List.setIfInBounds_toArray, List.set_cons_zero, List.set_cons_succ]
              refine lateTake 5 (some 53) ?_ rfl (by kernel_rfl) (by kernel_rfl) (by kernel_rfl) (by kernel_rfl) rfl (fun _ _ _ h => h) (by rfl) (by assumption) ?_ ?_
              rotate_left
              · (intro w hSw; (try dsimp only at hSw); go_simp <;> with_reducible rfl)
              simp only [Act.put, List.setIfInBounds_toArray, List.set_cons_zero, List.set_cons_succ]
              refine lateTake 6 (some 54) ?_ rfl (by kernel_rfl) (by kernel_rfl) (by kernel_rfl) (by kernel_rfl) rfl (fun _ _ _ h => h) (by rfl) (by assumption) ?_ ?_
              rotate_left
              · (intro w hSw; (try dsimp only at hSw); go_simp <;> with_reducible rfl)
              simp only [Act.put, List.setIfInBounds_toArray, List.set_cons_zero, List.set_cons_succ]
              refine lateStep 7 (by kernel_rfl) rfl (by rfl) (fun K hK => ?_)
              go_simp
              have hA : Below wo.drew.heap.size wo.drew (wo.drew.alloc (.cells ((lbC (⟨b, .slice am b.mails.length cm, .slice at1 b.tombs.length ct1⟩ : Lb)) : List Value).toArray 53)) := (Below.refl _ _).alloc (Nat.le_refl _) _
              have R_ := hide ((unhide R).ups hA)
              clear R
              have R := R_
              clear R_
              have S_ := hide ((unhide S).ups hA)
              clear S
              have S := S_
              clear S_
              have O_ := hide ((unhide O).ups hA)
              clear O
              have O := O_
              clear O_
              have OR1_ := hide ((unhide OR1).up hA)
              clear OR1
              have OR1 := OR1_
              clear OR1_
              have EB1_ := hide ((unhide EB1).up hA)
              clear EB1
              have EB1 := EB1_
              clear EB1_
              have OR2_ := hide ((unhide OR2).up hA)
              clear OR2
              have OR2 := OR2_
              clear OR2_
              have sz102 := hide (hA.size)
              have BB_ := hide (below_y (unhide BB) hA)
              clear BB
              have BB := BB_
              clear BB_
              clear hA
              refine hK.out _ _ (⟨(unhide S).cell 0 rfl, (unhide O).cell 0 rfl, (br_of (unhide OR1) (unhide X1)).1, (br_of (unhide OR1) (unhide X1)).2.1, (br_of (unhide OR1) (unhide X1)).2.2.1, (br_of (unhide OR1) (unhide X1)).2.2.2.1, (br_of (unhide OR1) (unhide X1)).2.2.2.2.1, (br_of (unhide OR1) (unhide X1)).2.2.2.2.2.1, (br_of (unhide OR1) (unhide X1)).2.2.2.2.2.2⟩) (fun hHeld2 => ?_)
              clear hK K hHeld
              have hHeld := hHeld2; clear hHeld2
              try simp only [Act.put, List.setIfInBounds_toArray, List.set_cons_zero, List.set_cons_succ]
              have oa := unhide OR2
              have ldl := (unhide BB).size
              refine lateStep 8 (by kernel_rfl) rfl (by rfl) (fun K hK => ?_)
              refine wp_append_lies _ (.tmp 49) (.tmp 55) 26 rfl (ws8.heap.size) 53 iX _ 7 96 Try.underlying26 hX hX0 hX1 hX2 rfl (by decide) (.slice a2 L2.length c2) _ _ rfl oa ⟨wo.drew.heap.size, 0, none⟩ 1 1 (lbC (⟨b, .slice am b.mails.length cm, .slice at1 b.tombs.length ct1⟩ : Lb)) rfl rfl (newsC _ _) ?c2 (by decide) ?c3 ?c4 ?c5 (wo.drew.heap.size + 1) (by simp) ?_
              case c2 => intro u hu; simp [lbC] at hu; rcases hu with rfl | rfl | rfl | rfl | rfl | rfl | rfl <;> rfl
              case c3 => unfold maxLen; have := unhide HLK; omega
              case c4 => have := unhide HLK; omega
              case c5 => have q1_ := (unhide BB).size; have szL_ := unhide szL; have szq_ := unhide szq; have sz101_ := unhide sz101; have sz102_ := unhide sz102; (try simp at q1_); (try simp); omega
              intro gsr1 capsr1 wsr1 hown hgr hat hlt_
              have R_ := hide ((unhide R).kept hgr (fun e => (unhide R).not_row (by decide) oa e.symm))
              have S_ := hide ((unhide S).kept hgr (fun e => (unhide S).not_row (by decide) oa e.symm))
              have O_ := hide ((unhide O).kept hgr (fun e => (unhide O).not_row (by decide) oa e.symm))
              have OR1_ : Hid (OwnBr w.heap.size wsr1 (.slice (some ⟨g1, 0, none⟩) n ck) (KL)) := g_aside (unhide OR1) hgr (fun x hx hx2 => by have q1_ := unhide LTS x hx2; have q2_ := (World.ownsRow.lt oa x hx).1; omega)
              have EB1_ : Hid (EachB w.heap.size wsr1 (KL)) := (unhide EB1).aside oa hgr (by decide) (by decide)
              have OR2_ : Hid (OwnBr (ws8.heap.size) wsr1 (.slice (some ⟨gsr1, 0, none⟩) (L2.length + 1) capsr1) (L2 ++ [(⟨b, .slice am b.mails.length cm, .slice at1 b.tombs.length ct1⟩ : Lb)])) := by exact OwnBr.snoc hown
              have BB_ : Hid (Below w.heap.size w wsr1) := (unhide BB).grown hgr (unhide BB).size (fun b hb => by have q2_ := (World.ownsRow.lt oa b hb).1; have szL_ := unhide szL; have szq_ := unhide szq; have sz101_ := unhide sz101; have sz102_ := unhide sz102; omega)
              have sz103 : Hid ((wo.drew.alloc (.cells ((lbC (⟨b, .slice am b.mails.length cm, .slice at1 b.tombs.length ct1⟩ : Lb)) : List Value).toArray 53)).heap.size ≤ wsr1.heap.size) := hgr.size
              clear R
              have R := R_
              clear R_
              clear S
              have S := S_
              clear S_
              clear O
              have O := O_
              clear O_
              clear OR1
              have OR1 := OR1_
              clear OR1_
              clear EB1
              have EB1 := EB1_
              clear EB1_
              clear OR2
              have OR2 := OR2_
              clear OR2_
              clear BB
              have BB := BB_
              clear BB_
              clear hown hgr hat hlt_ oa ldl
              refine hK.out _ _ (⟨(unhide S).cell 0 rfl, (unhide O).cell 0 rfl, (br_of (unhide OR1) (unhide X1)).1, (br_of (unhide OR1) (unhide X1)).2.1, (br_of (unhide OR1) (unhide X1)).2.2.1, (br_of (unhide OR1) (unhide X1)).2.2.2.1, (br_of (unhide OR1) (unhide X1)).2.2.2.2.1, (br_of (unhide OR1) (unhide X1)).2.2.2.2.2.1, (br_of (unhide OR1) (unhide X1)).2.2.2.2.2.2⟩) (fun hHeld2 => ?_)
              clear hK K hHeld
              have hHeld := hHeld2; clear hHeld2
              try simp only [Act.put, List.setIfInBounds_toArray, List.set_cons_zero, List.set_cons_succ]
              refine lateStep 9 (by kernel_rfl) rfl (by rfl) (fun K hK => ?_)
              go_simp
              refine hK.out _ _ (⟨(unhide S).cell 0 rfl, (unhide O).cell 0 rfl, (br_of (unhide OR1) (unhide X1)).1, (br_of (unhide OR1) (unhide X1)).2.1, (br_of (unhide OR1) (unhide X1)).2.2.1, (br_of (unhide OR1) (unhide X1)).2.2.2.1, (br_of (unhide OR1) (unhide X1)).2.2.2.2.1, (br_of (unhide OR1) (unhide X1)).2.2.2.2.2.1, (br_of (unhide OR1) (unhide X1)).2.2.2.2.2.2⟩) (fun hHeld2 => ?_)
              clear hK K hHeld
              have hHeld := hHeld2; clear hHeld2
              try simp only [Act.put, List.setIfInBounds_toArray, List.set_cons_zero, List.set_cons_succ]
              have Ofz0_9 := (unhide O).frozen 0
              have Ocz0_9 := (unhide O).cell 0 rfl
              obtain ⟨wsr2, hst⟩ : ∃ X, X = wsr1.setCell ⟨ws7.heap.size, 0, none⟩ (.slice (some ⟨gsr1, 0, none⟩) (L2.length + 1) capsr1) := ⟨_, rfl⟩
              have OR1_ : Hid (OwnBr w.heap.size wsr2 (.slice (some ⟨g1, 0, none⟩) n ck) (KL)) := by show OwnBr _ _ _ _; rw [hst]; exact (unhide O).row (j := 0) (by decide) (unhide OR1) _
              have EB1_ : Hid (EachB w.heap.size wsr2 (KL)) := by show EachB _ _ _; rw [hst]; exact (unhide EB1).set (j := 0) (unhide O) (by decide) (by decide) _
              have OR2_ : Hid (OwnBr ws8.heap.size wsr2 (.slice (some ⟨gsr1, 0, none⟩) (L2.length + 1) capsr1) (L2 ++ [(⟨b, .slice am b.mails.length cm, .slice at1 b.tombs.length ct1⟩ : Lb)])) := by show OwnBr _ _ _ _; rw [hst]; exact (unhide O).row (j := 0) (by decide) (unhide OR2) _
              have R_ := hide ((unhide R).other (j := 0) neRO (.slice (some ⟨gsr1, 0, none⟩) (L2.length + 1) capsr1))
              rw [← hst] at R_
              have S_ := hide ((unhide S).other (j := 0) neSO (.slice (some ⟨gsr1, 0, none⟩) (L2.length + 1) capsr1))
              rw [← hst] at S_
              have O_ := hide ((unhide O).set 0 (.slice (some ⟨gsr1, 0, none⟩) (L2.length + 1) capsr1))
              rw [← hst] at O_
              have BB_ := hide ((unhide BB).setCell (p := ⟨ws7.heap.size, 0, none⟩) (show w.heap.size ≤ ws7.heap.size from loO) (.slice (some ⟨gsr1, 0, none⟩) (L2.length + 1) capsr1))
              rw [← hst] at BB_
              have sz104 : Hid (wsr1.heap.size ≤ wsr2.heap.size) := by show _ ≤ _; rw [hst]; simp
              clear OR1
              have OR1 := OR1_
              clear OR1_
              clear EB1
              have EB1 := EB1_
              clear EB1_
              clear OR2
              have OR2 := OR2_
              clear OR2_
              clear R
              have R := R_
              clear R_
              clear S
              have S := S_
              clear S_
              clear O
              have O := O_
              clear O_
              clear BB
              have BB := BB_
              clear BB_
              have Est104 := hst.symm
              clear hst
              refine lateLast 10 (by decide) (by kernel_rfl) rfl (by rfl) (fun K hK => ?_)
              go_simp
              refine hK.out _ _ ?_
              clear hK K hHeld
              try simp only [Act.put, List.setIfInBounds_toArray, List.set_cons_zero, List.set_cons_succ]
              try rw [Est104]
              clear Ofz0_9 Ocz0_9 Est104
              refine lateDone (by kernel_rfl) ?_ _
              have e9 : L2.length + 1 = (L2 ++ [(⟨b, .slice am b.mails.length cm, .slice at1 b.tombs.length ct1⟩ : Lb)]).length := by simp
              rw [e9] at O OR2
              clear e9
              go_wp2
              go_roundw
              case rel => rw [unhide HREL]; exact ⟨k + 1, _, _, _, by omega, by go_num, unhide NX2, unhide R, unhide S, unhide O, unhide OR1, unhide EB1, unhide OR2, unhide BB, (by show _ ≤ _; have szL_ := unhide szL; have szq_ := unhide szq; have sz101_ := unhide sz101; have sz102_ := unhide sz102; have sz103_ := unhide sz103; have sz104_ := unhide sz104; omega)⟩
              case measure => simp [intOf]; omega
          · obtain rfl : k = n := by omega
            have R := hide oR
            have S := hide oS
            have O := hide oO
            have OR1 := hide o1
            have EB1 := hide oe
            have OR2 : Hid (OwnBr w.heap.size wo (.slice a2 L2.length c2) L2) := OwnBr.based o2 (unhide szL)
            have BB := hide hbel
            have DM : Hid (L2.map (·.b) = dropL s.boxes name) := by show _ = _; rw [unhide HL2, List.take_of_length_le (by have := unhide HNK; omega)]; exact drop_map KL name _ (unhide HK)
            have LE : Hid (∀ x ∈ L2, x ∈ KL) := fun x hx => by rw [unhide HL2] at hx; exact List.mem_of_mem_take (List.mem_filter.1 hx).1
            clear oR oS oO o1 oe o2 hbel hlt hk hsz
            cases hl2 : L2 with
            | nil =>
              rw [hl2] at DM O
              clear hl2
              simp only [List.length_nil] at O
              have Oc0_7 := (unhide O).cell 0 rfl
              have Oc1_7 := (unhide O).cell 1 rfl
              have ANS : Hid (dropV s name = (s, 4)) := dropV_last (unhide H1) (unhide H2) (unhide BX) (unhide DM).symm
              have Sc0_8 := (unhide S).cell 0 rfl
              have Sc1_8 := (unhide S).cell 1 rfl
              have Rf0 := (unhide R).frozen 0
              have Rf1 := (unhide R).frozen 1
              have Re0 := (unhide R).cell 0 rfl
              have Re1 := (unhide R).cell 1 rfl
              have F := hide (fill2 (unhide R) (.slice ak k ck) (.int .i64 s.valid))
              obtain ⟨U, hU⟩ : ∃ U, U = ((wo.setCell ⟨ws1.heap.size, 0, none⟩ (.slice ak k ck)).setCell ⟨ws1.heap.size, 1, none⟩ (.int .i64 s.valid)) := ⟨_, rfl⟩
              have F9 := unhide F
              rw [← hU] at F9
              have EU := hU.symm
              clear F hU
              have v0 := F9.obj.cell 0 rfl
              have v1 := F9.obj.cell 1 rfl
              have F := hide F9
              clear F9
              go_wp2_with (refine bodyPost_ret (by simp [results, Try.results13, go_sem, v0, v1]; try rfl) rfl ?_)
              clear EU
              have F := unhide F
              rw [unhide ANS]
              exact ⟨_, rfl, ⟨KL, unhide HK, ⟨F.row (by decide) (unhide OR1), fun x hx => ⟨F.row (by decide) ((unhide EB1) x hx).1, F.row (by decide) ((unhide EB1) x hx).2⟩⟩⟩, F.below loR (unhide BB)⟩
            | cons x9 l9 =>
              have ND : Hid (dropL s.boxes name ≠ []) := by show _ ≠ _; rw [← unhide DM, hl2]; simp
              have NL : Hid (∃ p, L2.length = p + 1) := ⟨l9.length, by rw [hl2]; rfl⟩
              clear hl2
              have ANS : Hid (dropV s name = (⟨dropL s.boxes name, s.valid⟩, 0)) := dropV_yes (unhide H1) (unhide H2) (unhide BX) (unhide ND)
              obtain ⟨n2, hn2⟩ : ∃ n2, n2 = L2.length := ⟨_, rfl⟩
              obtain ⟨p2, hp2⟩ := unhide NL
              rw [← hn2] at hp2 O OR2
              have hpos : ¬ ((n2 : Int) = 0) := by omega
              have HN2 := hide hn2
              clear hn2 hp2
              have Oc0_7 := (unhide O).cell 0 rfl
              have Oc1_7 := (unhide O).cell 1 rfl
              have Sc0_8 := (unhide S).cell 0 rfl
              have Sc1_8 := (unhide S).cell 1 rfl
              have Rf0 := (unhide R).frozen 0
              have Rf1 := (unhide R).frozen 1
              have Re0 := (unhide R).cell 0 rfl
              have Re1 := (unhide R).cell 1 rfl
              have F := hide (fill2 (unhide R) (.slice a2 n2 c2) (.int .i64 s.valid))
              obtain ⟨U, hU⟩ : ∃ U, U = ((wo.setCell ⟨ws1.heap.size, 0, none⟩ (.slice a2 n2 c2)).setCell ⟨ws1.heap.size, 1, none⟩ (.int .i64 s.valid)) := ⟨_, rfl⟩
              have F9 := unhide F
              rw [← hU] at F9
              have EU := hU.symm
              clear F hU
              have v0 := F9.obj.cell 0 rfl
              have v1 := F9.obj.cell 1 rfl
              have F := hide F9
              clear F9
              go_wp2_with (refine bodyPost_ret (by simp [results, Try.results13, go_sem, v0, v1]; try rfl) rfl ?_)
              clear EU
              have F := unhide F
              rw [unhide ANS]
              exact ⟨_, rfl, ⟨L2, unhide DM, ⟨F.row (by decide) (unhide OR2), fun x hx => ⟨F.row (by decide) ((unhide EB1) x (unhide LE x hx)).1, F.row (by decide) ((unhide EB1) x (unhide LE x hx)).2⟩⟩⟩, F.below loR (unhide BB)⟩
end Go.Proofs.Ytecognggnbopaac
