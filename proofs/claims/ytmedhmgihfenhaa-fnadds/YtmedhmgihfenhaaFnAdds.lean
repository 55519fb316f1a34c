/- FnAdds's walk, over whatever contracts of the program's own functions. Made by gen_fnadds.py. -/
import Derived.Test.YtmedhmgihfenhaaDrawBoxF
import Derived.Test.YtmedhmgihfenhaaSameBox
import Derived.Test.YtmedhmgihfenhaaDrawKit
import Derived.Test.YtmedhmgihfenhaaRegA
namespace Go.Proofs.Ytmedhmgihfenhaa
open Go.RowKit
open Plain
set_option linter.unusedVariables false
set_option linter.unusedSimpArgs false

/-- What is asked of the program's functions. -/
structure AddsOk (w : World) : Prop where
  add : ∀ (b : Bx) (m t : Value) (B : Nat) (flags : Int) (text : ByteArray) (W : World), FitBx b → b.mails.length ≤ 1048576 → text.size ≤ 1048576 → OwnBx B W m t b → Below w.heap.size w W → Calls Try.prog 9 #[boxV b m t, .int .i64 flags, .string text] W fun e w' => ∃ m' t', e = .returned (.tuple #[boxV (addV b flags text).1 m' t', .int .i64 (addV b flags text).2]) ∧ OwnBx W.heap.size w' m' t' (addV b flags text).1 ∧ Below W.heap.size W w'
  ok : ∀ (b : Bx) (m t : Value) (B : Nat) (W : World), FitBx b → OwnBx B W m t b → Below w.heap.size w W → Calls Try.prog 12 #[boxV b m t] W fun e w' => e = .returned (.bool (boxOk b)) ∧ Below W.heap.size W w'
theorem mails_prefix {B g c : Nat} {w : World} {n : Nat} {l : List Ml} {x : Ml} (h : OwnMl B w (.slice (some ⟨g, 0, none⟩) n c) (l ++ [x])) : ReadM w (.slice (some ⟨g, 0, none⟩) l.length c) l := by
  refine ⟨_, _, rfl, fun k f hx => ?_⟩
  have hk := (List.getElem?_eq_some_iff.1 hx).1
  obtain ⟨g', c', e, hg, c0, c1, c2, c3⟩ := ml_read h (Below.refl _ _) (k := k) (f := f) (by rw [List.getElem?_append_left hk]; exact hx)
  have e1 := Option.some.inj (Value.slice.inj e).1
  have e2 : g = g' := by injection e1
  subst e2
  exact ⟨g, rfl, hg, c0, c1, c2, c3⟩
theorem mails_cap {B : Nat} {w : World} {v : Value} {l : List Ml} {x : Ml} (h : OwnMl B w v (l ++ [x])) : ∃ g c, v = .slice (some ⟨g, 0, none⟩) (l.length + 1) c ∧ l.length + 1 ≤ c := by
  unfold OwnMl at h
  rcases h.2 with ⟨_, h1⟩ | ⟨g, c, cur, h1, _, _, h2, _⟩
  · simp at h1
  · rw [List.length_append] at h1 h2
    exact ⟨g, c, h1, h2⟩
theorem mails_last {B g c : Nat} {w : World} {n : Nat} {l : List Ml} {x : Ml} (h : OwnMl B w (.slice (some ⟨g, 0, none⟩) n c) (l ++ [x])) : w.cell? ⟨g, l.length * 4, none⟩ = some (.int .i64 x.uid) ∧ w.cell? ⟨g, l.length * 4 + 1, none⟩ = some (.int .i64 x.flags) ∧ w.cell? ⟨g, l.length * 4 + 3, none⟩ = some (.string x.text) := by
  obtain ⟨g', c', e, hg, c0, c1, c2, c3⟩ := ml_read h (Below.refl _ _) (k := l.length) (f := x) (by simp)
  have e1 := Option.some.inj (Value.slice.inj e).1
  have e2 : g = g' := by injection e1
  subst e2
  exact ⟨c0, c1, c3⟩
namespace Plain
theorem adds_case (b : Bx) (f : Int) (t : ByteArray) : addV b f t = (b, 0) ∨ (addV b f t = (added b f t, b.next) ∧ boxOk (added b f t) = true) := by
  unfold addV
  split
  · rename_i x; exact .inr ⟨rfl, x.2⟩
  · exact .inl rfl
end Plain
set_option maxHeartbeats 16000000 in
set_option maxRecDepth 100000 in
theorem FnAdds_walk (len cap : Nat) (a : Option Addr) (w : World) (ha : Arg w.heap.size w a len) (CI : AddsOk w) :
    Calls Try.prog 3 #[.slice a len cap] w fun e w' => e = .returned (.bool true) ∧ Below w.heap.size w w' := by
  have hl := ha.1
  have q0 := bigF_any len cap a w (by omega)
  rw [decide_eq_false (show ¬ (1048576 : Int) < (len : Int) by omega)] at q0
  have Q0 := hide q0
  have D1 := hide (fun W (hb : Below w.heap.size w W) => DrawBox_any w.heap.size len cap a W (ha.below hb) hb.size)
  have D2 := hide (fun W (hb : Below w.heap.size w W) => DrawMail_any w.heap.size len cap a W (ha.below hb) hb.size)
  have CC := hide CI
  clear q0 ha CI
  have BB := hide (Below.refl w.heap.size w)
  go_enter Try.func3, Try.ntmps3
  go_wp2_with fail
  refine (unhide Q0).mono ?_
  rintro e w0 ⟨rfl, hw⟩
  subst w0
  go_wp2_with fail
  refine (unhide D1 _ (unhide BB)).mono ?_
  rintro e w1 ⟨b, mB, tB, rfl, hok, oB, hb⟩
  obtain ⟨amB, cmB, rfl⟩ := g_shape oB.1
  obtain ⟨atB, ctB, rfl⟩ := g_shape oB.2
  have FIT := hide (fit_ok hok)
  have OK := hide hok
  have TR := hide (right_of hok).tomb
  have hnx := inI_iff.1 (head_parts (boxOk_iff.1 hok).1).2.2.1
  have hmod := inI_iff.1 (head_parts (boxOk_iff.1 hok).1).2.2.2.1
  have h30 := (head_parts (boxOk_iff.1 hok).1).2.2.2.2.1
  have h40 := (head_parts (boxOk_iff.1 hok).1).2.2.2.2.2.1
  have OB_ := hide oB
  clear hok oB
  have sz1 := hide (hb.size)
  have BB_ := hide (below_y (unhide BB) hb)
  clear BB
  have BB := BB_
  clear BB_
  clear hb
  have OB := OB_
  clear OB_
  obtain ⟨w2, hB⟩ : ∃ X, X = w1.alloc (.cells ([.string b.name, .int .i64 b.valid, .int .i64 b.next, .int .i64 b.mod, .slice amB b.mails.length cmB, .slice atB b.tombs.length ctB, .int .i64 b.hor] : List Value).toArray 27) := ⟨_, rfl⟩
  have Bx : HasObj w2 w1.heap.size 27 [.string b.name, .int .i64 b.valid, .int .i64 b.next, .int .i64 b.mod, .slice amB b.mails.length cmB, .slice atB b.tombs.length ctB, .int .i64 b.hor] := by rw [hB]; exact HasObj.new _ _ _
  have hbn : Below w1.heap.size w1 w2 := by rw [hB]; exact (Below.refl _ _).alloc (Nat.le_refl _) _
  have loB : w.heap.size ≤ w1.heap.size := (unhide BB).size
  have EB := hB.symm
  clear hB
  have OB_ := hide ((unhide OB).up hbn)
  clear OB
  have OB := OB_
  clear OB_
  have sz2 := hide (hbn.size)
  have BB_ := hide (below_y (unhide BB) hbn)
  clear BB
  have BB := BB_
  clear BB_
  clear hbn
  have B := hide Bx
  clear Bx
  go_wp2_with fail
  clear EB
  refine (unhide D2 _ (unhide BB)).mono ?_
  rintro e w3 ⟨tx, htx, rfl, hb⟩
  have TS := hide (mail_small htx)
  clear htx
  have B_ := hide ((unhide B).ups hb)
  clear B
  have B := B_
  clear B_
  have OB_ := hide ((unhide OB).up hb)
  clear OB
  have OB := OB_
  clear OB_
  have sz3 := hide (hb.size)
  have BB_ := hide (below_y (unhide BB) hb)
  clear BB
  have BB := BB_
  clear BB_
  clear hb
  rcases adds_case b 5 tx with av | ⟨av, okc⟩
  · have AV := hide av
    clear av
    have Bc0_1 := (unhide B).cell 0 rfl
    have Bc1_1 := (unhide B).cell 1 rfl
    have Bc2_1 := (unhide B).cell 2 rfl
    have Bc3_1 := (unhide B).cell 3 rfl
    have Bc4_1 := (unhide B).cell 4 rfl
    have Bc5_1 := (unhide B).cell 5 rfl
    have Bc6_1 := (unhide B).cell 6 rfl
    go_wp2_with fail
    clear Bc0_1 Bc1_1 Bc2_1 Bc3_1 Bc4_1 Bc5_1 Bc6_1
    refine ((unhide CC).add b _ _ _ 5 tx _ (unhide FIT) (by omega) (unhide TS) (unhide OB) (unhide BB)).mono ?_
    rintro e wn4 ⟨mN, tN, rfl, oN, hb⟩
    rw [unhide AV] at oN ⊢
    simp only at oN ⊢
    have oo : OwnBx w3.heap.size wn4 mN tN b := oN
    clear oN
    obtain ⟨amN, cmN, rfl⟩ := g_shape oo.1
    obtain ⟨atN, ctN, rfl⟩ := g_shape oo.2
    have ON_ : Hid (OwnBx w3.heap.size wn4 (.slice amN b.mails.length cmN) (.slice atN b.tombs.length ctN) b) := oo
    clear oo
    have B_ := hide ((unhide B).ups hb)
    clear B
    have B := B_
    clear B_
    have OB_ := hide ((unhide OB).up hb)
    clear OB
    have OB := OB_
    clear OB_
    have sz4 := hide (hb.size)
    have BB_ := hide (below_y (unhide BB) hb)
    clear BB
    have BB := BB_
    clear BB_
    clear hb
    have ON := ON_
    clear ON_
    obtain ⟨wn5, hN⟩ : ∃ X, X = wn4.alloc (.cells ([.string b.name, .int .i64 b.valid, .int .i64 b.next, .int .i64 b.mod, .slice amN b.mails.length cmN, .slice atN b.tombs.length ctN, .int .i64 b.hor] : List Value).toArray 27) := ⟨_, rfl⟩
    have Nx : HasObj wn5 wn4.heap.size 27 [.string b.name, .int .i64 b.valid, .int .i64 b.next, .int .i64 b.mod, .slice amN b.mails.length cmN, .slice atN b.tombs.length ctN, .int .i64 b.hor] := by rw [hN]; exact HasObj.new _ _ _
    have hbn : Below wn4.heap.size wn4 wn5 := by rw [hN]; exact (Below.refl _ _).alloc (Nat.le_refl _) _
    have neBN : w1.heap.size ≠ wn4.heap.size := Nat.ne_of_lt (unhide B).lt
    have loN : w.heap.size ≤ wn4.heap.size := (unhide BB).size
    have EN := hN.symm
    clear hN
    have B_ := hide ((unhide B).ups hbn)
    clear B
    have B := B_
    clear B_
    have OB_ := hide ((unhide OB).up hbn)
    clear OB
    have OB := OB_
    clear OB_
    have ON_ := hide ((unhide ON).up hbn)
    clear ON
    have ON := ON_
    clear ON_
    have sz5 := hide (hbn.size)
    have BB_ := hide (below_y (unhide BB) hbn)
    clear BB
    have BB := BB_
    clear BB_
    clear hbn
    have N := hide Nx
    clear Nx
    have Bc0_2 := (unhide B).cell 0 rfl
    have Bc1_2 := (unhide B).cell 1 rfl
    have Bc2_2 := (unhide B).cell 2 rfl
    have Bc3_2 := (unhide B).cell 3 rfl
    have Bc4_2 := (unhide B).cell 4 rfl
    have Bc5_2 := (unhide B).cell 5 rfl
    have Bc6_2 := (unhide B).cell 6 rfl
    go_wp2_with fail
    clear Bc0_2 Bc1_2 Bc2_2 Bc3_2 Bc4_2 Bc5_2 Bc6_2 EN
    refine (spec_AddMail_any b _ _ _ 5 tx _ (unhide FIT) (by omega) (unhide TS) (unhide OB)).mono ?_
    rintro e wn6 ⟨mW, tW, rfl, oW, hb⟩
    rw [unhide AV] at oW ⊢
    simp only at oW ⊢
    have oo : OwnBx wn5.heap.size wn6 mW tW b := oW
    clear oW
    obtain ⟨amW, cmW, rfl⟩ := g_shape oo.1
    obtain ⟨atW, ctW, rfl⟩ := g_shape oo.2
    have OW_ : Hid (OwnBx wn5.heap.size wn6 (.slice amW b.mails.length cmW) (.slice atW b.tombs.length ctW) b) := oo
    clear oo
    have B_ := hide ((unhide B).ups hb)
    clear B
    have B := B_
    clear B_
    have N_ := hide ((unhide N).ups hb)
    clear N
    have N := N_
    clear N_
    have OB_ := hide ((unhide OB).up hb)
    clear OB
    have OB := OB_
    clear OB_
    have ON_ := hide ((unhide ON).up hb)
    clear ON
    have ON := ON_
    clear ON_
    have sz6 := hide (hb.size)
    have BB_ := hide (below_y (unhide BB) hb)
    clear BB
    have BB := BB_
    clear BB_
    clear hb
    have OW := OW_
    clear OW_
    obtain ⟨wn7, hW⟩ : ∃ X, X = wn6.alloc (.cells ([.string b.name, .int .i64 b.valid, .int .i64 b.next, .int .i64 b.mod, .slice amW b.mails.length cmW, .slice atW b.tombs.length ctW, .int .i64 b.hor] : List Value).toArray 27) := ⟨_, rfl⟩
    have Wx : HasObj wn7 wn6.heap.size 27 [.string b.name, .int .i64 b.valid, .int .i64 b.next, .int .i64 b.mod, .slice amW b.mails.length cmW, .slice atW b.tombs.length ctW, .int .i64 b.hor] := by rw [hW]; exact HasObj.new _ _ _
    have hbn : Below wn6.heap.size wn6 wn7 := by rw [hW]; exact (Below.refl _ _).alloc (Nat.le_refl _) _
    have neBW : w1.heap.size ≠ wn6.heap.size := Nat.ne_of_lt (unhide B).lt
    have neNW : wn4.heap.size ≠ wn6.heap.size := Nat.ne_of_lt (unhide N).lt
    have loW : w.heap.size ≤ wn6.heap.size := (unhide BB).size
    have EW := hW.symm
    clear hW
    have B_ := hide ((unhide B).ups hbn)
    clear B
    have B := B_
    clear B_
    have N_ := hide ((unhide N).ups hbn)
    clear N
    have N := N_
    clear N_
    have OB_ := hide ((unhide OB).up hbn)
    clear OB
    have OB := OB_
    clear OB_
    have ON_ := hide ((unhide ON).up hbn)
    clear ON
    have ON := ON_
    clear ON_
    have OW_ := hide ((unhide OW).up hbn)
    clear OW
    have OW := OW_
    clear OW_
    have sz7 := hide (hbn.size)
    have BB_ := hide (below_y (unhide BB) hbn)
    clear BB
    have BB := BB_
    clear BB_
    clear hbn
    have W := hide Wx
    clear Wx
    have Nc0_3 := (unhide N).cell 0 rfl
    have Nc1_3 := (unhide N).cell 1 rfl
    have Nc2_3 := (unhide N).cell 2 rfl
    have Nc3_3 := (unhide N).cell 3 rfl
    have Nc4_3 := (unhide N).cell 4 rfl
    have Nc5_3 := (unhide N).cell 5 rfl
    have Nc6_3 := (unhide N).cell 6 rfl
    have Wc0_4 := (unhide W).cell 0 rfl
    have Wc1_4 := (unhide W).cell 1 rfl
    have Wc2_4 := (unhide W).cell 2 rfl
    have Wc3_4 := (unhide W).cell 3 rfl
    have Wc4_4 := (unhide W).cell 4 rfl
    have Wc5_4 := (unhide W).cell 5 rfl
    have Wc6_4 := (unhide W).cell 6 rfl
    go_wp2_with fail
    clear Nc0_3 Nc1_3 Nc2_3 Nc3_3 Nc4_3 Nc5_3 Nc6_3 Wc0_4 Wc1_4 Wc2_4 Wc3_4 Wc4_4 Wc5_4 Wc6_4 EW
    refine (sameBox_same b _ _ _ _ _ _ _ (by omega) (by omega) (unhide ON) (unhide OW)).mono ?_
    rintro e wn8 ⟨rfl, hb⟩
    have B_ := hide ((unhide B).ups hb)
    clear B
    have B := B_
    clear B_
    have N_ := hide ((unhide N).ups hb)
    clear N
    have N := N_
    clear N_
    have W_ := hide ((unhide W).ups hb)
    clear W
    have W := W_
    clear W_
    have OB_ := hide ((unhide OB).up hb)
    clear OB
    have OB := OB_
    clear OB_
    have ON_ := hide ((unhide ON).up hb)
    clear ON
    have ON := ON_
    clear ON_
    have OW_ := hide ((unhide OW).up hb)
    clear OW
    have OW := OW_
    clear OW_
    have sz8 := hide (hb.size)
    have BB_ := hide (below_y (unhide BB) hb)
    clear BB
    have BB := BB_
    clear BB_
    clear hb
    have Bc0_5 := (unhide B).cell 0 rfl
    have Bc1_5 := (unhide B).cell 1 rfl
    have Bc2_5 := (unhide B).cell 2 rfl
    have Bc3_5 := (unhide B).cell 3 rfl
    have Bc4_5 := (unhide B).cell 4 rfl
    have Bc5_5 := (unhide B).cell 5 rfl
    have Bc6_5 := (unhide B).cell 6 rfl
    go_wp2_with fail
    clear Bc0_5 Bc1_5 Bc2_5 Bc3_5 Bc4_5 Bc5_5 Bc6_5
    refine ((unhide CC).ok b _ _ _ _ (unhide FIT) (unhide OB) (unhide BB)).mono ?_
    rintro e wn9 ⟨rfl, hb⟩
    have B_ := hide ((unhide B).ups hb)
    clear B
    have B := B_
    clear B_
    have N_ := hide ((unhide N).ups hb)
    clear N
    have N := N_
    clear N_
    have W_ := hide ((unhide W).ups hb)
    clear W
    have W := W_
    clear W_
    have OB_ := hide ((unhide OB).up hb)
    clear OB
    have OB := OB_
    clear OB_
    have ON_ := hide ((unhide ON).up hb)
    clear ON
    have ON := ON_
    clear ON_
    have OW_ := hide ((unhide OW).up hb)
    clear OW
    have OW := OW_
    clear OW_
    have sz9 := hide (hb.size)
    have BB_ := hide (below_y (unhide BB) hb)
    clear BB
    have BB := BB_
    clear BB_
    clear hb
    rw [unhide OK]
    have Nc0_6 := (unhide N).cell 0 rfl
    have Nc1_6 := (unhide N).cell 1 rfl
    have Nc2_6 := (unhide N).cell 2 rfl
    have Nc3_6 := (unhide N).cell 3 rfl
    have Nc4_6 := (unhide N).cell 4 rfl
    have Nc5_6 := (unhide N).cell 5 rfl
    have Nc6_6 := (unhide N).cell 6 rfl
    have Bc0_7 := (unhide B).cell 0 rfl
    have Bc1_7 := (unhide B).cell 1 rfl
    have Bc2_7 := (unhide B).cell 2 rfl
    have Bc3_7 := (unhide B).cell 3 rfl
    have Bc4_7 := (unhide B).cell 4 rfl
    have Bc5_7 := (unhide B).cell 5 rfl
    have Bc6_7 := (unhide B).cell 6 rfl
    go_wp2_with fail
    clear Nc0_6 Nc1_6 Nc2_6 Nc3_6 Nc4_6 Nc5_6 Nc6_6 Bc0_7 Bc1_7 Bc2_7 Bc3_7 Bc4_7 Bc5_7 Bc6_7
    refine (sameBox_same b _ _ _ _ _ _ _ (by omega) (by omega) (unhide ON) (unhide OB)).mono ?_
    rintro e wn10 ⟨rfl, hb⟩
    have B_ := hide ((unhide B).ups hb)
    clear B
    have B := B_
    clear B_
    have N_ := hide ((unhide N).ups hb)
    clear N
    have N := N_
    clear N_
    have W_ := hide ((unhide W).ups hb)
    clear W
    have W := W_
    clear W_
    have OB_ := hide ((unhide OB).up hb)
    clear OB
    have OB := OB_
    clear OB_
    have ON_ := hide ((unhide ON).up hb)
    clear ON
    have ON := ON_
    clear ON_
    have OW_ := hide ((unhide OW).up hb)
    clear OW
    have OW := OW_
    clear OW_
    have sz10 := hide (hb.size)
    have BB_ := hide (below_y (unhide BB) hb)
    clear BB
    have BB := BB_
    clear BB_
    clear hb
    go_wp2
    go_ret
    exact ⟨rfl, unhide BB⟩
  · have AV := hide av
    clear av
    have OKC := hide okc
    have FITC := hide (fit_ok okc)
    have c30 := (head_parts (boxOk_iff.1 okc).1).2.2.2.2.1
    clear okc
    have E1 : (added b 5 tx).name = b.name := rfl
    have E2 : (added b 5 tx).valid = b.valid := rfl
    have E3 : (added b 5 tx).next = b.next + 1 := rfl
    have E4 : (added b 5 tx).mod = b.mod + 1 := rfl
    have E5 : (added b 5 tx).hor = b.hor := rfl
    have E6 : (added b 5 tx).tombs.length = b.tombs.length := rfl
    have E8 : (added b 5 tx).mails.length = b.mails.length + 1 := by show (b.mails ++ [_]).length = _; rw [List.length_append]; rfl
    have Bc0_1 := (unhide B).cell 0 rfl
    have Bc1_1 := (unhide B).cell 1 rfl
    have Bc2_1 := (unhide B).cell 2 rfl
    have Bc3_1 := (unhide B).cell 3 rfl
    have Bc4_1 := (unhide B).cell 4 rfl
    have Bc5_1 := (unhide B).cell 5 rfl
    have Bc6_1 := (unhide B).cell 6 rfl
    go_wp2_with fail
    clear Bc0_1 Bc1_1 Bc2_1 Bc3_1 Bc4_1 Bc5_1 Bc6_1
    refine ((unhide CC).add b _ _ _ 5 tx _ (unhide FIT) (by omega) (unhide TS) (unhide OB) (unhide BB)).mono ?_
    rintro e wy4 ⟨mN, tN, rfl, oN, hb⟩
    rw [unhide AV] at oN ⊢
    simp only at oN ⊢
    have oo : OwnBx w3.heap.size wy4 mN tN (added b 5 tx) := oN
    clear oN
    obtain ⟨gN, cN, rfl, hcN⟩ := mails_cap (show OwnMl _ _ _ (b.mails ++ [⟨b.next, 5, b.mod + 1, tx⟩]) from oo.1)
    obtain ⟨atN, ctN, rfl⟩ := g_shape oo.2
    have ON_ : Hid (OwnBx w3.heap.size wy4 (.slice (some ⟨gN, 0, none⟩) (b.mails.length + 1) cN) (.slice atN b.tombs.length ctN) (added b 5 tx)) := oo
    clear oo
    have B_ := hide ((unhide B).ups hb)
    clear B
    have B := B_
    clear B_
    have OB_ := hide ((unhide OB).up hb)
    clear OB
    have OB := OB_
    clear OB_
    have sz4 := hide (hb.size)
    have BB_ := hide (below_y (unhide BB) hb)
    clear BB
    have BB := BB_
    clear BB_
    clear hb
    have ON := ON_
    clear ON_
    obtain ⟨wy5, hN⟩ : ∃ X, X = wy4.alloc (.cells ([.string b.name, .int .i64 b.valid, .int .i64 (b.next + 1), .int .i64 (b.mod + 1), .slice (some ⟨gN, 0, none⟩) (b.mails.length + 1) cN, .slice atN b.tombs.length ctN, .int .i64 b.hor] : List Value).toArray 27) := ⟨_, rfl⟩
    have Nx : HasObj wy5 wy4.heap.size 27 [.string b.name, .int .i64 b.valid, .int .i64 (b.next + 1), .int .i64 (b.mod + 1), .slice (some ⟨gN, 0, none⟩) (b.mails.length + 1) cN, .slice atN b.tombs.length ctN, .int .i64 b.hor] := by rw [hN]; exact HasObj.new _ _ _
    have hbn : Below wy4.heap.size wy4 wy5 := by rw [hN]; exact (Below.refl _ _).alloc (Nat.le_refl _) _
    have neBN : w1.heap.size ≠ wy4.heap.size := Nat.ne_of_lt (unhide B).lt
    have loN : w.heap.size ≤ wy4.heap.size := (unhide BB).size
    have EN := hN.symm
    clear hN
    have B_ := hide ((unhide B).ups hbn)
    clear B
    have B := B_
    clear B_
    have OB_ := hide ((unhide OB).up hbn)
    clear OB
    have OB := OB_
    clear OB_
    have ON_ := hide ((unhide ON).up hbn)
    clear ON
    have ON := ON_
    clear ON_
    have sz5 := hide (hbn.size)
    have BB_ := hide (below_y (unhide BB) hbn)
    clear BB
    have BB := BB_
    clear BB_
    clear hbn
    have N := hide Nx
    clear Nx
    have Bc0_2 := (unhide B).cell 0 rfl
    have Bc1_2 := (unhide B).cell 1 rfl
    have Bc2_2 := (unhide B).cell 2 rfl
    have Bc3_2 := (unhide B).cell 3 rfl
    have Bc4_2 := (unhide B).cell 4 rfl
    have Bc5_2 := (unhide B).cell 5 rfl
    have Bc6_2 := (unhide B).cell 6 rfl
    go_wp2_with fail
    clear Bc0_2 Bc1_2 Bc2_2 Bc3_2 Bc4_2 Bc5_2 Bc6_2 EN
    refine (spec_AddMail_any b _ _ _ 5 tx _ (unhide FIT) (by omega) (unhide TS) (unhide OB)).mono ?_
    rintro e wy6 ⟨mW, tW, rfl, oW, hb⟩
    rw [unhide AV] at oW ⊢
    simp only at oW ⊢
    have oo : OwnBx wy5.heap.size wy6 mW tW (added b 5 tx) := oW
    clear oW
    obtain ⟨gW, cW, rfl, hcW⟩ := mails_cap (show OwnMl _ _ _ (b.mails ++ [⟨b.next, 5, b.mod + 1, tx⟩]) from oo.1)
    obtain ⟨atW, ctW, rfl⟩ := g_shape oo.2
    have OW_ : Hid (OwnBx wy5.heap.size wy6 (.slice (some ⟨gW, 0, none⟩) (b.mails.length + 1) cW) (.slice atW b.tombs.length ctW) (added b 5 tx)) := oo
    clear oo
    have B_ := hide ((unhide B).ups hb)
    clear B
    have B := B_
    clear B_
    have N_ := hide ((unhide N).ups hb)
    clear N
    have N := N_
    clear N_
    have OB_ := hide ((unhide OB).up hb)
    clear OB
    have OB := OB_
    clear OB_
    have ON_ := hide ((unhide ON).up hb)
    clear ON
    have ON := ON_
    clear ON_
    have sz6 := hide (hb.size)
    have BB_ := hide (below_y (unhide BB) hb)
    clear BB
    have BB := BB_
    clear BB_
    clear hb
    have OW := OW_
    clear OW_
    obtain ⟨wy7, hW⟩ : ∃ X, X = wy6.alloc (.cells ([.string b.name, .int .i64 b.valid, .int .i64 (b.next + 1), .int .i64 (b.mod + 1), .slice (some ⟨gW, 0, none⟩) (b.mails.length + 1) cW, .slice atW b.tombs.length ctW, .int .i64 b.hor] : List Value).toArray 27) := ⟨_, rfl⟩
    have Wx : HasObj wy7 wy6.heap.size 27 [.string b.name, .int .i64 b.valid, .int .i64 (b.next + 1), .int .i64 (b.mod + 1), .slice (some ⟨gW, 0, none⟩) (b.mails.length + 1) cW, .slice atW b.tombs.length ctW, .int .i64 b.hor] := by rw [hW]; exact HasObj.new _ _ _
    have hbn : Below wy6.heap.size wy6 wy7 := by rw [hW]; exact (Below.refl _ _).alloc (Nat.le_refl _) _
    have neBW : w1.heap.size ≠ wy6.heap.size := Nat.ne_of_lt (unhide B).lt
    have neNW : wy4.heap.size ≠ wy6.heap.size := Nat.ne_of_lt (unhide N).lt
    have loW : w.heap.size ≤ wy6.heap.size := (unhide BB).size
    have EW := hW.symm
    clear hW
    have B_ := hide ((unhide B).ups hbn)
    clear B
    have B := B_
    clear B_
    have N_ := hide ((unhide N).ups hbn)
    clear N
    have N := N_
    clear N_
    have OB_ := hide ((unhide OB).up hbn)
    clear OB
    have OB := OB_
    clear OB_
    have ON_ := hide ((unhide ON).up hbn)
    clear ON
    have ON := ON_
    clear ON_
    have OW_ := hide ((unhide OW).up hbn)
    clear OW
    have OW := OW_
    clear OW_
    have sz7 := hide (hbn.size)
    have BB_ := hide (below_y (unhide BB) hbn)
    clear BB
    have BB := BB_
    clear BB_
    clear hbn
    have W := hide Wx
    clear Wx
    have Nc0_3 := (unhide N).cell 0 rfl
    have Nc1_3 := (unhide N).cell 1 rfl
    have Nc2_3 := (unhide N).cell 2 rfl
    have Nc3_3 := (unhide N).cell 3 rfl
    have Nc4_3 := (unhide N).cell 4 rfl
    have Nc5_3 := (unhide N).cell 5 rfl
    have Nc6_3 := (unhide N).cell 6 rfl
    have Wc0_4 := (unhide W).cell 0 rfl
    have Wc1_4 := (unhide W).cell 1 rfl
    have Wc2_4 := (unhide W).cell 2 rfl
    have Wc3_4 := (unhide W).cell 3 rfl
    have Wc4_4 := (unhide W).cell 4 rfl
    have Wc5_4 := (unhide W).cell 5 rfl
    have Wc6_4 := (unhide W).cell 6 rfl
    go_wp2_with fail
    clear Nc0_3 Nc1_3 Nc2_3 Nc3_3 Nc4_3 Nc5_3 Nc6_3 Wc0_4 Wc1_4 Wc2_4 Wc3_4 Wc4_4 Wc5_4 Wc6_4 EW
    refine (sameBox_same (added b 5 tx) _ _ _ _ _ _ _ (by show (b.mails ++ [_]).length ≤ _; rw [List.length_append]; show b.mails.length + 1 ≤ _; omega) (by show b.tombs.length ≤ _; omega) (unhide ON) (unhide OW)).mono ?_
    rintro e wy8 ⟨rfl, hb⟩
    have B_ := hide ((unhide B).ups hb)
    clear B
    have B := B_
    clear B_
    have N_ := hide ((unhide N).ups hb)
    clear N
    have N := N_
    clear N_
    have W_ := hide ((unhide W).ups hb)
    clear W
    have W := W_
    clear W_
    have OB_ := hide ((unhide OB).up hb)
    clear OB
    have OB := OB_
    clear OB_
    have ON_ := hide ((unhide ON).up hb)
    clear ON
    have ON := ON_
    clear ON_
    have OW_ := hide ((unhide OW).up hb)
    clear OW
    have OW := OW_
    clear OW_
    have sz8 := hide (hb.size)
    have BB_ := hide (below_y (unhide BB) hb)
    clear BB
    have BB := BB_
    clear BB_
    clear hb
    have Bc0_5 := (unhide B).cell 0 rfl
    have Bc1_5 := (unhide B).cell 1 rfl
    have Bc2_5 := (unhide B).cell 2 rfl
    have Bc3_5 := (unhide B).cell 3 rfl
    have Bc4_5 := (unhide B).cell 4 rfl
    have Bc5_5 := (unhide B).cell 5 rfl
    have Bc6_5 := (unhide B).cell 6 rfl
    go_wp2_with fail
    clear Bc0_5 Bc1_5 Bc2_5 Bc3_5 Bc4_5 Bc5_5 Bc6_5
    refine ((unhide CC).ok b _ _ _ _ (unhide FIT) (unhide OB) (unhide BB)).mono ?_
    rintro e wy9 ⟨rfl, hb⟩
    have B_ := hide ((unhide B).ups hb)
    clear B
    have B := B_
    clear B_
    have N_ := hide ((unhide N).ups hb)
    clear N
    have N := N_
    clear N_
    have W_ := hide ((unhide W).ups hb)
    clear W
    have W := W_
    clear W_
    have OB_ := hide ((unhide OB).up hb)
    clear OB
    have OB := OB_
    clear OB_
    have ON_ := hide ((unhide ON).up hb)
    clear ON
    have ON := ON_
    clear ON_
    have OW_ := hide ((unhide OW).up hb)
    clear OW
    have OW := OW_
    clear OW_
    have sz9 := hide (hb.size)
    have BB_ := hide (below_y (unhide BB) hb)
    clear BB
    have BB := BB_
    clear BB_
    clear hb
    rw [unhide OK]
    clear E1 E2 E3 E4 E5 E6 E8
    clear OW W
    have d0 : (b.next == 0) = false := beq_eq_false_iff_ne.2 (by omega)
    have Bc0_6 := (unhide B).cell 0 rfl
    have Bc1_6 := (unhide B).cell 1 rfl
    have Bc2_6 := (unhide B).cell 2 rfl
    have Bc3_6 := (unhide B).cell 3 rfl
    have Bc4_6 := (unhide B).cell 4 rfl
    have Bc5_6 := (unhide B).cell 5 rfl
    have Bc6_6 := (unhide B).cell 6 rfl
    go_wp2
    clear Bc0_6 Bc1_6 Bc2_6 Bc3_6 Bc4_6 Bc5_6 Bc6_6
    clear d0
    obtain ⟨REL, HREL⟩ : ∃ REL : Value → World → Prop, Hid (REL = fun i wr => ∃ k : Nat, k ≤ b.tombs.length ∧ i = .int .i64 k ∧ HasObj wr (w1.heap.size) 27 [.string b.name, .int .i64 b.valid, .int .i64 b.next, .int .i64 b.mod, .slice amB b.mails.length cmB, .slice atB b.tombs.length ctB, .int .i64 b.hor] ∧ HasObj wr (wy4.heap.size) 27 [.string b.name, .int .i64 b.valid, .int .i64 (b.next + 1), .int .i64 (b.mod + 1), .slice (some ⟨gN, 0, none⟩) (b.mails.length + 1) cN, .slice atN b.tombs.length ctN, .int .i64 b.hor] ∧ OwnBx w.heap.size wr (.slice amB b.mails.length cmB) (.slice atB b.tombs.length ctB) b ∧ OwnBx w3.heap.size wr (.slice (some ⟨gN, 0, none⟩) (b.mails.length + 1) cN) (.slice atN b.tombs.length ctN) (added b 5 tx) ∧ Below w.heap.size w wr) := ⟨_, rfl⟩
    go_loopw [10] (fun i wr => REL i wr) (fun i _ => b.tombs.length - (intOf i).toNat)
    case atStart => rw [unhide HREL]; exact ⟨0, Nat.zero_le _, rfl, unhide B, unhide N, unhide OB, unhide ON, unhide BB⟩
    clear B N OB ON BB
    case round =>
      rw [unhide HREL] at hrel
      obtain ⟨k, hk, rfl, oB, oN, rB, rN, hbel⟩ := hrel
      obtain ⟨wo, hwo⟩ : ∃ wo, wo = wr := ⟨_, rfl⟩
      subst hwo
      by_cases hlt : k < b.tombs.length
      · have hgk : b.tombs[k]? = some b.tombs[k] := List.getElem?_eq_getElem hlt
        obtain ⟨gt, qt, e1, _, c0, _⟩ := tb_read rB.2 (Below.refl _ _) hgk
        have tr := (unhide TR _ (List.getElem_mem hlt)).u2
        generalize b.tombs[k] = x at *
        have e3 := (Value.slice.inj e1).1
        clear e1 hgk
        subst e3
        have dt : decide (b.next ≤ x.uid) = false := decide_eq_false (by omega)
        have i1 : (0 : Int) ≤ (k : Int) := by omega
        have i2 : (k : Int) < (b.tombs.length : Int) := by omega
        have k5 := oB.cell 5 rfl
        have B := hide oB
        have N := hide oN
        have OB := hide rB
        have ON := hide rN
        have BB := hide hbel
        clear oB oN rB rN hbel
        go_wp2
        go_roundw
        case rel => rw [unhide HREL]; exact ⟨k + 1, by omega, by go_num, unhide B, unhide N, unhide OB, unhide ON, unhide BB⟩
        case measure => simp [intOf]; omega
      · have k5 := oB.cell 5 rfl
        have B := hide oB
        have N := hide oN
        have OB := hide rB
        have ON := hide rN
        have BB := hide hbel
        clear oB oN rB rN
        obtain rfl : k = b.tombs.length := by omega
        clear hlt hk
        have LAST := hide (fun (W : World) (h : OwnMl w3.heap.size W (.slice (some ⟨gN, 0, none⟩) (b.mails.length + 1) cN) (b.mails ++ [⟨b.next, 5, b.mod + 1, tx⟩])) => mails_last h)
        have nk : IntKind.i64.wrap ((b.mails.length : Int) + 1) = (b.mails.length : Int) + 1 := by rw [IntKind.wrap_i64]; omega
        have nn : IntKind.i64.wrap (b.next + 1) = b.next + 1 := by rw [IntKind.wrap_i64]; omega
        have nm : IntKind.i64.wrap (b.mod + 1) = b.mod + 1 := by rw [IntKind.wrap_i64]; omega
        have i1 : (0 : Int) ≤ (b.mails.length : Int) := by omega
        have i2 : (b.mails.length : Int) < (b.mails.length : Int) + 1 := by omega
        have i3 : (b.mails.length : Int) ≤ (cN : Int) := by omega
        have i4 : ¬ cN = 0 := by omega
        have Bc0_7 := (unhide B).cell 0 rfl
        have Bc1_7 := (unhide B).cell 1 rfl
        have Bc2_7 := (unhide B).cell 2 rfl
        have Bc3_7 := (unhide B).cell 3 rfl
        have Bc4_7 := (unhide B).cell 4 rfl
        have Bc5_7 := (unhide B).cell 5 rfl
        have Bc6_7 := (unhide B).cell 6 rfl
        have Nc0_8 := (unhide N).cell 0 rfl
        have Nc1_8 := (unhide N).cell 1 rfl
        have Nc2_8 := (unhide N).cell 2 rfl
        have Nc3_8 := (unhide N).cell 3 rfl
        have Nc4_8 := (unhide N).cell 4 rfl
        have Nc5_8 := (unhide N).cell 5 rfl
        have Nc6_8 := (unhide N).cell 6 rfl
        go_wp2
        clear k5
        refine wp_region_held_drew (S := fun w' => w'.cell? ⟨w1.heap.size, 3, none⟩ = some (.int .i64 b.mod) ∧ w'.cell? ⟨w1.heap.size, 4, none⟩ = some (.slice amB b.mails.length cmB) ∧ w'.cell? ⟨wy4.heap.size, 0, none⟩ = some (.string b.name) ∧ w'.cell? ⟨wy4.heap.size, 1, none⟩ = some (.int .i64 b.valid) ∧ w'.cell? ⟨wy4.heap.size, 2, none⟩ = some (.int .i64 (b.next + 1)) ∧ w'.cell? ⟨wy4.heap.size, 3, none⟩ = some (.int .i64 (b.mod + 1)) ∧ w'.cell? ⟨wy4.heap.size, 4, none⟩ = some (.slice (some ⟨gN, 0, none⟩) (b.mails.length + 1) cN) ∧ w'.cell? ⟨wy4.heap.size, 5, none⟩ = some (.slice atN b.tombs.length ctN) ∧ w'.cell? ⟨wy4.heap.size, 6, none⟩ = some (.int .i64 b.hor) ∧ w'.cell? ⟨gN, b.mails.length * 4, none⟩ = some (.int .i64 b.next) ∧ w'.cell? ⟨gN, b.mails.length * 4 + 1, none⟩ = some (.int .i64 5) ∧ w'.cell? ⟨gN, b.mails.length * 4 + 3, none⟩ = some (.string tx)) (by kernel_rfl) (⟨(unhide B).cell 3 rfl, (unhide B).cell 4 rfl, (unhide N).cell 0 rfl, (unhide N).cell 1 rfl, (unhide N).cell 2 rfl, (unhide N).cell 3 rfl, (unhide N).cell 4 rfl, (unhide N).cell 5 rfl, (unhide N).cell 6 rfl, (unhide LAST _ (unhide ON).1).1, (unhide LAST _ (unhide ON).1).2.1, (unhide LAST _ (unhide ON).1).2.2⟩) (fun hHeld => ?_)
        clear Bc0_7 Bc1_7 Bc2_7 Bc3_7 Bc4_7 Bc5_7 Bc6_7 Nc0_8 Nc1_8 Nc2_8 Nc3_8 Nc4_8 Nc5_8 Nc6_8
        have B_ := hide ((unhide B).drew)
        clear B
        have B := B_
        clear B_
        have N_ := hide ((unhide N).drew)
        clear N
        have N := N_
        clear N_
        have OB_ := hide ((unhide OB).drew)
        clear OB
        have OB := OB_
        clear OB_
        have ON_ := hide ((unhide ON).drew)
        clear ON
        have ON := ON_
        clear ON_
        have BB_ := hide ((unhide BB).drew)
        clear BB
        have BB := BB_
        clear BB_
        have sz301 : Hid (wo.heap.size ≤ wo.drew.heap.size) := Nat.le_refl _
        refine takeVal 0 (some 66) ?_ rfl (by kernel_rfl) (by kernel_rfl) (by kernel_rfl) rfl (fun _ _ _ h => h) (by rfl) (by assumption) ?_ ?_
        rotate_left
        · (intro w hSw; (try dsimp only at hSw); go_simp <;> with_reducible rfl)
        simp only [Act.put, List.setIfInBounds_toArray, List.set_cons_zero, List.set_cons_succ]
        refine wpAnyH_ready (rs := [1]) (by kernel_rfl) (by simp) ?_
        refine AllReadyH.cons rfl (fun K hK => ?_) AllReadyH.nil
        go_simp
        refine ((unhide CC).ok (added b 5 tx) _ _ _ _ (unhide FITC) (unhide ON) (unhide BB)).mono ?_
        rintro e wz1 ⟨rfl, hb⟩
        rw [unhide OKC]
        have B_ := hide ((unhide B).ups hb)
        clear B
        have B := B_
        clear B_
        have N_ := hide ((unhide N).ups hb)
        clear N
        have N := N_
        clear N_
        have OB_ := hide ((unhide OB).up hb)
        clear OB
        have OB := OB_
        clear OB_
        have ON_ := hide ((unhide ON).up hb)
        clear ON
        have ON := ON_
        clear ON_
        have sz302 := hide (hb.size)
        have BB_ := hide (below_y (unhide BB) hb)
        clear BB
        have BB := BB_
        clear BB_
        clear hb
        go_wp2_with fail
        refine hK.out _ _ (⟨(unhide B).cell 3 rfl, (unhide B).cell 4 rfl, (unhide N).cell 0 rfl, (unhide N).cell 1 rfl, (unhide N).cell 2 rfl, (unhide N).cell 3 rfl, (unhide N).cell 4 rfl, (unhide N).cell 5 rfl, (unhide N).cell 6 rfl, (unhide LAST _ (unhide ON).1).1, (unhide LAST _ (unhide ON).1).2.1, (unhide LAST _ (unhide ON).1).2.2⟩) (fun hHeld2 => ?_)
        clear hK K hHeld
        have hHeld := hHeld2; clear hHeld2
        try simp only [Act.put, List.setIfInBounds_toArray, List.set_cons_zero, List.set_cons_succ]
        refine takeVal 2 (some 68) ?_ rfl (by kernel_rfl) (by kernel_rfl) (by kernel_rfl) rfl (fun _ _ _ h => h) (by rfl) (by assumption) ?_ ?_
        rotate_left
        · (intro w hSw; (try dsimp only at hSw); go_simp <;> with_reducible rfl)
        simp only [Act.put, List.setIfInBounds_toArray, List.set_cons_zero, List.set_cons_succ]
        refine takeVal 3 (some 69) ?_ rfl (by kernel_rfl) (by kernel_rfl) (by kernel_rfl) rfl (fun _ _ _ h => h) (by rfl) (by assumption) ?_ ?_
        rotate_left
        · (intro w hSw; (try dsimp only at hSw); go_simp <;> with_reducible rfl)
        simp only [Act.put, List.setIfInBounds_toArray, List.set_cons_zero, List.set_cons_succ]
        refine takeVal 4 (some 70) ?_ rfl (by kernel_rfl) (by kernel_rfl) (by kernel_rfl) rfl (fun _ _ _ h => h) (by rfl) (by assumption) ?_ ?_
        rotate_left
        · (intro w hSw; (try dsimp only at hSw); go_simp <;> with_reducible rfl)
        simp only [Act.put, List.setIfInBounds_toArray, List.set_cons_zero, List.set_cons_succ]
        refine takeVal 5 (some 71) ?_ rfl (by kernel_rfl) (by kernel_rfl) (by kernel_rfl) rfl (fun _ _ _ h => h) (by rfl) (by assumption) ?_ ?_
        rotate_left
        · (intro w hSw; (try dsimp only at hSw); go_simp <;> with_reducible rfl)
        simp only [Act.put, List.setIfInBounds_toArray, List.set_cons_zero, List.set_cons_succ]
        refine takeVal 6 (some 72) ?_ rfl (by kernel_rfl) (by kernel_rfl) (by kernel_rfl) rfl (fun _ _ _ h => h) (by rfl) (by assumption) ?_ ?_
        rotate_left
        · (intro w hSw; (try dsimp only at hSw); go_simp <;> with_reducible rfl)
        simp only [Act.put, List.setIfInBounds_toArray, List.set_cons_zero, List.set_cons_succ]
        refine takeVal 7 (some 73) ?_ rfl (by kernel_rfl) (by kernel_rfl) (by kernel_rfl) rfl (fun _ _ _ h => h) (by rfl) (by assumption) ?_ ?_
        rotate_left
        · (intro w hSw; (try dsimp only at hSw); go_simp <;> with_reducible rfl)
        simp only [Act.put, List.setIfInBounds_toArray, List.set_cons_zero, List.set_cons_succ]
        refine takeVal 8 (some 74) ?_ rfl (by kernel_rfl) (by kernel_rfl) (by kernel_rfl) rfl (fun _ _ _ h => h) (by rfl) (by assumption) ?_ ?_
        rotate_left
        · (intro w hSw; (try dsimp only at hSw); go_simp <;> with_reducible rfl)
        simp only [Act.put, List.setIfInBounds_toArray, List.set_cons_zero, List.set_cons_succ]
        refine takeVal 9 (some 75) ?_ rfl (by kernel_rfl) (by kernel_rfl) (by kernel_rfl) rfl (fun _ _ _ h => h) (by rfl) (by assumption) ?_ ?_
        rotate_left
        · (intro w hSw; (try dsimp only at hSw); go_simp <;> with_reducible rfl)
        simp only [Act.put, List.setIfInBounds_toArray, List.set_cons_zero, List.set_cons_succ]
        refine takeVal 10 (some 76) ?_ rfl (by kernel_rfl) (by kernel_rfl) (by kernel_rfl) rfl (fun _ _ _ h => h) (by rfl) (by assumption) ?_ ?_
        rotate_left
        · (intro w hSw; (try dsimp only at hSw); go_simp <;> with_reducible rfl)
        simp only [Act.put, List.setIfInBounds_toArray, List.set_cons_zero, List.set_cons_succ]
        refine takeVal 11 (some 77) ?_ rfl (by kernel_rfl) (by kernel_rfl) (by kernel_rfl) rfl (fun _ _ _ h => h) (by rfl) (by assumption) ?_ ?_
        rotate_left
        · (intro w hSw; (try dsimp only at hSw); go_simp <;> with_reducible rfl)
        simp only [Act.put, List.setIfInBounds_toArray, List.set_cons_zero, List.set_cons_succ]
        refine takeVal 12 (some 78) ?_ rfl (by kernel_rfl) (by kernel_rfl) (by kernel_rfl) rfl (fun _ _ _ h => h) (by rfl) (by assumption) ?_ ?_
        rotate_left
        · (intro w hSw; (try dsimp only at hSw); go_simp <;> with_reducible rfl)
        simp only [Act.put, List.setIfInBounds_toArray, List.set_cons_zero, List.set_cons_succ]
        refine takeVal 13 (some 79) ?_ rfl (by kernel_rfl) (by kernel_rfl) (by kernel_rfl) rfl (fun _ _ _ h => h) (by rfl) (by assumption) ?_ ?_
        rotate_left
        · (intro w hSw; (try dsimp only at hSw); go_simp <;> with_reducible rfl)
        simp only [Act.put, List.setIfInBounds_toArray, List.set_cons_zero, List.set_cons_succ]
        refine takeVal 14 (some 80) ?_ rfl (by kernel_rfl) (by kernel_rfl) (by kernel_rfl) rfl (fun _ _ _ h => h) (by rfl) (by assumption) ?_ ?_
        rotate_left
        · (intro w hSw; (try dsimp only at hSw); go_simp <;> with_reducible rfl)
        simp only [Act.put, List.setIfInBounds_toArray, List.set_cons_zero, List.set_cons_succ]
        refine takeVal 15 (some 81) ?_ rfl (by kernel_rfl) (by kernel_rfl) (by kernel_rfl) rfl (fun _ _ _ h => h) (by rfl) (by assumption) ?_ ?_
        rotate_left
        · (intro w hSw; (try dsimp only at hSw); go_simp <;> with_reducible rfl)
        simp only [Act.put, List.setIfInBounds_toArray, List.set_cons_zero, List.set_cons_succ]
        refine takeVal 16 (some 82) ?_ rfl (by kernel_rfl) (by kernel_rfl) (by kernel_rfl) rfl (fun _ _ _ h => h) (by rfl) (by assumption) ?_ ?_
        rotate_left
        · (intro w hSw; (try dsimp only at hSw); go_simp <;> with_reducible rfl)
        simp only [Act.put, List.setIfInBounds_toArray, List.set_cons_zero, List.set_cons_succ]
        refine takeVal 17 (some 83) ?_ rfl (by kernel_rfl) (by kernel_rfl) (by kernel_rfl) rfl (fun _ _ _ h => h) (by rfl) (by assumption) ?_ ?_
        rotate_left
        · (intro w hSw; (try dsimp only at hSw); go_simp <;> with_reducible rfl)
        simp only [Act.put, List.setIfInBounds_toArray, List.set_cons_zero, List.set_cons_succ]
        refine takeVal 18 (some 84) ?_ rfl (by kernel_rfl) (by kernel_rfl) (by kernel_rfl) rfl (fun _ _ _ h => h) (by rfl) (by assumption) ?_ ?_
        rotate_left
        · (intro w hSw; (try dsimp only at hSw); go_simp <;> with_reducible rfl)
        simp only [Act.put, List.setIfInBounds_toArray, List.set_cons_zero, List.set_cons_succ]
        refine takeVal 19 (some 85) ?_ rfl (by kernel_rfl) (by kernel_rfl) (by kernel_rfl) rfl (fun _ _ _ h => h) (by rfl) (by assumption) ?_ ?_
        rotate_left
        · (intro w hSw; (try dsimp only at hSw); go_simp <;> with_reducible rfl)
        simp only [Act.put, List.setIfInBounds_toArray, List.set_cons_zero, List.set_cons_succ]
        refine takeVal 20 (some 86) ?_ rfl (by kernel_rfl) (by kernel_rfl) (by kernel_rfl) rfl (fun _ _ _ h => h) (by rfl) (by assumption) ?_ ?_
        rotate_left
        · (intro w hSw; (try dsimp only at hSw); go_simp <;> with_reducible rfl)
        simp only [Act.put, List.setIfInBounds_toArray, List.set_cons_zero, List.set_cons_succ]
        refine takeVal 21 (some 87) ?_ rfl (by kernel_rfl) (by kernel_rfl) (by kernel_rfl) rfl (fun _ _ _ h => h) (by rfl) (by assumption) ?_ ?_
        rotate_left
        · (intro w hSw; (try dsimp only at hSw); go_simp <;> with_reducible rfl)
        simp only [Act.put, List.setIfInBounds_toArray, List.set_cons_zero, List.set_cons_succ]
        refine takeVal 22 (some 88) ?_ rfl (by kernel_rfl) (by kernel_rfl) (by kernel_rfl) rfl (fun _ _ _ h => h) (by rfl) (by assumption) ?_ ?_
        rotate_left
        · (intro w hSw; (try dsimp only at hSw); go_simp <;> with_reducible rfl)
        simp only [Act.put, List.setIfInBounds_toArray, List.set_cons_zero, List.set_cons_succ]
        refine takeVal 23 (some 89) ?_ rfl (by kernel_rfl) (by kernel_rfl) (by kernel_rfl) rfl (fun _ _ _ h => h) (by rfl) (by assumption) ?_ ?_
        rotate_left
        · (intro w hSw; (try dsimp only at hSw); go_simp <;> with_reducible rfl)
        simp only [Act.put, List.setIfInBounds_toArray, List.set_cons_zero, List.set_cons_succ]
        refine takeVal 24 (some 90) ?_ rfl (by kernel_rfl) (by kernel_rfl) (by kernel_rfl) rfl (fun _ _ _ h => h) (by rfl) (by assumption) ?_ ?_
        rotate_left
        · (intro w hSw; (try dsimp only at hSw); go_simp <;> with_reducible rfl)
        simp only [Act.put, List.setIfInBounds_toArray, List.set_cons_zero, List.set_cons_succ]
        refine takeVal 25 (some 91) ?_ rfl (by kernel_rfl) (by kernel_rfl) (by kernel_rfl) rfl (fun _ _ _ h => h) (by rfl) (by assumption) ?_ ?_
        rotate_left
        · (intro w hSw; (try dsimp only at hSw); go_simp <;> with_reducible rfl)
        simp only [Act.put, List.setIfInBounds_toArray, List.set_cons_zero, List.set_cons_succ]
        refine takeVal 26 (some 92) ?_ rfl (by kernel_rfl) (by kernel_rfl) (by kernel_rfl) rfl (fun _ _ _ h => h) (by rfl) (by assumption) ?_ ?_
        rotate_left
        · (intro w hSw; (try dsimp only at hSw); go_simp <;> with_reducible rfl)
        simp only [Act.put, List.setIfInBounds_toArray, List.set_cons_zero, List.set_cons_succ]
        refine takeVal 27 (some 93) ?_ rfl (by kernel_rfl) (by kernel_rfl) (by kernel_rfl) rfl (fun _ _ _ h => h) (by rfl) (by assumption) ?_ ?_
        rotate_left
        · (intro w hSw; (try dsimp only at hSw); go_simp <;> with_reducible rfl)
        simp only [Act.put, List.setIfInBounds_toArray, List.set_cons_zero, List.set_cons_succ]
        refine takeVal 28 (some 94) ?_ rfl (by kernel_rfl) (by kernel_rfl) (by kernel_rfl) rfl (fun _ _ _ h => h) (by rfl) (by assumption) ?_ ?_
        rotate_left
        · (intro w hSw; (try dsimp only at hSw); go_simp <;> with_reducible rfl)
        simp only [Act.put, List.setIfInBounds_toArray, List.set_cons_zero, List.set_cons_succ]
        refine takeVal 29 (some 95) ?_ rfl (by kernel_rfl) (by kernel_rfl) (by kernel_rfl) rfl (fun _ _ _ h => h) (by rfl) (by assumption) ?_ ?_
        rotate_left
        · (intro w hSw; (try dsimp only at hSw); go_simp <;> with_reducible rfl)
        simp only [Act.put, List.setIfInBounds_toArray, List.set_cons_zero, List.set_cons_succ]
        refine takeVal 30 (some 96) ?_ rfl (by kernel_rfl) (by kernel_rfl) (by kernel_rfl) rfl (fun _ _ _ h => h) (by rfl) (by assumption) ?_ ?_
        rotate_left
        · (intro w hSw; (try dsimp only at hSw); go_simp <;> with_reducible rfl)
        simp only [Act.put, List.setIfInBounds_toArray, List.set_cons_zero, List.set_cons_succ]
        refine takeVal 31 (some 97) ?_ rfl (by kernel_rfl) (by kernel_rfl) (by kernel_rfl) rfl (fun _ _ _ h => h) (by rfl) (by assumption) ?_ ?_
        rotate_left
        · (intro w hSw; (try dsimp only at hSw); go_simp <;> with_reducible rfl)
        simp only [Act.put, List.setIfInBounds_toArray, List.set_cons_zero, List.set_cons_succ]
        refine takeVal 32 (some 98) ?_ rfl (by kernel_rfl) (by kernel_rfl) (by kernel_rfl) rfl (fun _ _ _ h => h) (by rfl) (by assumption) ?_ ?_
        rotate_left
        · (intro w hSw; (try dsimp only at hSw); go_simp <;> with_reducible rfl)
        simp only [Act.put, List.setIfInBounds_toArray, List.set_cons_zero, List.set_cons_succ]
        refine takeVal 33 (some 99) ?_ rfl (by kernel_rfl) (by kernel_rfl) (by kernel_rfl) rfl (fun _ _ _ h => h) (by rfl) (by assumption) ?_ ?_
        rotate_left
        · (intro w hSw; (try dsimp only at hSw); go_simp <;> with_reducible rfl)
        simp only [Act.put, List.setIfInBounds_toArray, List.set_cons_zero, List.set_cons_succ]
        refine takeVal 34 (some 100) ?_ rfl (by kernel_rfl) (by kernel_rfl) (by kernel_rfl) rfl (fun _ _ _ h => h) (by rfl) (by assumption) ?_ ?_
        rotate_left
        · (intro w hSw; (try dsimp only at hSw); go_simp <;> with_reducible rfl)
        simp only [Act.put, List.setIfInBounds_toArray, List.set_cons_zero, List.set_cons_succ]
        refine takeVal 35 (some 101) ?_ rfl (by kernel_rfl) (by kernel_rfl) (by kernel_rfl) rfl (fun _ _ _ h => h) (by rfl) (by assumption) ?_ ?_
        rotate_left
        · (intro w hSw; (try dsimp only at hSw); go_simp <;> with_reducible rfl)
        simp only [Act.put, List.setIfInBounds_toArray, List.set_cons_zero, List.set_cons_succ]
        refine takeVal 36 (some 102) ?_ rfl (by kernel_rfl) (by kernel_rfl) (by kernel_rfl) rfl (fun _ _ _ h => h) (by rfl) (by assumption) ?_ ?_
        rotate_left
        · (intro w hSw; (try dsimp only at hSw); go_simp <;> with_reducible rfl)
        simp only [Act.put, List.setIfInBounds_toArray, List.set_cons_zero, List.set_cons_succ]
        refine takeVal 37 (some 103) ?_ rfl (by kernel_rfl) (by kernel_rfl) (by kernel_rfl) rfl (fun _ _ _ h => h) (by rfl) (by assumption) ?_ ?_
        rotate_left
        · (intro w hSw; (try dsimp only at hSw); go_simp <;> with_reducible rfl)
        simp only [Act.put, List.setIfInBounds_toArray, List.set_cons_zero, List.set_cons_succ]
        refine takeVal 38 (some 104) ?_ rfl (by kernel_rfl) (by kernel_rfl) (by kernel_rfl) rfl (fun _ _ _ h => h) (by rfl) (by assumption) ?_ ?_
        rotate_left
        · (intro w hSw; (try dsimp only at hSw); go_simp <;> with_reducible rfl)
        simp only [Act.put, List.setIfInBounds_toArray, List.set_cons_zero, List.set_cons_succ]
        refine takeVal 39 (some 105) ?_ rfl (by kernel_rfl) (by kernel_rfl) (by kernel_rfl) rfl (fun _ _ _ h => h) (by rfl) (by assumption) ?_ ?_
        rotate_left
        · (intro w hSw; (try dsimp only at hSw); go_simp <;> with_reducible rfl)
        simp only [Act.put, List.setIfInBounds_toArray, List.set_cons_zero, List.set_cons_succ]
        refine takeVal 40 (some 106) ?_ rfl (by kernel_rfl) (by kernel_rfl) (by kernel_rfl) rfl (fun _ _ _ h => h) (by rfl) (by assumption) ?_ ?_
        rotate_left
        · (intro w hSw; (try dsimp only at hSw); go_simp <;> with_reducible rfl)
        simp only [Act.put, List.setIfInBounds_toArray, List.set_cons_zero, List.set_cons_succ]
        refine takeVal 41 (some 107) ?_ rfl (by kernel_rfl) (by kernel_rfl) (by kernel_rfl) rfl (fun _ _ _ h => h) (by rfl) (by assumption) ?_ ?_
        rotate_left
        · (intro w hSw; (try dsimp only at hSw); go_simp <;> with_reducible rfl)
        simp only [Act.put, List.setIfInBounds_toArray, List.set_cons_zero, List.set_cons_succ]
        refine takeVal 42 (some 108) ?_ rfl (by kernel_rfl) (by kernel_rfl) (by kernel_rfl) rfl (fun _ _ _ h => h) (by rfl) (by assumption) ?_ ?_
        rotate_left
        · (intro w hSw; (try dsimp only at hSw); go_simp <;> with_reducible rfl)
        simp only [Act.put, List.setIfInBounds_toArray, List.set_cons_zero, List.set_cons_succ]
        refine takeVal 43 (some 109) ?_ rfl (by kernel_rfl) (by kernel_rfl) (by kernel_rfl) rfl (fun _ _ _ h => h) (by rfl) (by assumption) ?_ ?_
        rotate_left
        · (intro w hSw; (try dsimp only at hSw); go_simp <;> with_reducible rfl)
        simp only [Act.put, List.setIfInBounds_toArray, List.set_cons_zero, List.set_cons_succ]
        refine takeVal 44 (some 110) ?_ rfl (by kernel_rfl) (by kernel_rfl) (by kernel_rfl) rfl (fun _ _ _ h => h) (by rfl) (by assumption) ?_ ?_
        rotate_left
        · (intro w hSw; (try dsimp only at hSw); go_simp <;> with_reducible rfl)
        simp only [Act.put, List.setIfInBounds_toArray, List.set_cons_zero, List.set_cons_succ]
        refine takeVal 45 (some 111) ?_ rfl (by kernel_rfl) (by kernel_rfl) (by kernel_rfl) rfl (fun _ _ _ h => h) (by rfl) (by assumption) ?_ ?_
        rotate_left
        · (intro w hSw; (try dsimp only at hSw); go_simp <;> with_reducible rfl)
        simp only [Act.put, List.setIfInBounds_toArray, List.set_cons_zero, List.set_cons_succ]
        refine wpAnyH_ready (rs := [46]) (by kernel_rfl) (by simp) ?_
        refine AllReadyH.cons rfl (fun K hK => ?_) AllReadyH.nil
        go_simp
        refine (sameMails_same b.mails _ _ _ (by omega) (mails_prefix (show OwnMl _ _ _ (b.mails ++ [⟨b.next, 5, b.mod + 1, tx⟩]) from (unhide ON).1)) (unhide OB).1.read).mono ?_
        rintro e wz2 ⟨rfl, hb⟩
        have B_ := hide ((unhide B).ups hb)
        clear B
        have B := B_
        clear B_
        have N_ := hide ((unhide N).ups hb)
        clear N
        have N := N_
        clear N_
        have OB_ := hide ((unhide OB).up hb)
        clear OB
        have OB := OB_
        clear OB_
        have ON_ := hide ((unhide ON).up hb)
        clear ON
        have ON := ON_
        clear ON_
        have sz303 := hide (hb.size)
        have BB_ := hide (below_y (unhide BB) hb)
        clear BB
        have BB := BB_
        clear BB_
        clear hb
        go_wp2_with fail
        refine hK.out _ _ (⟨(unhide B).cell 3 rfl, (unhide B).cell 4 rfl, (unhide N).cell 0 rfl, (unhide N).cell 1 rfl, (unhide N).cell 2 rfl, (unhide N).cell 3 rfl, (unhide N).cell 4 rfl, (unhide N).cell 5 rfl, (unhide N).cell 6 rfl, (unhide LAST _ (unhide ON).1).1, (unhide LAST _ (unhide ON).1).2.1, (unhide LAST _ (unhide ON).1).2.2⟩) (fun hHeld2 => ?_)
        clear hK K hHeld
        have hHeld := hHeld2; clear hHeld2
        try simp only [Act.put, List.setIfInBounds_toArray, List.set_cons_zero, List.set_cons_succ]
        refine takeVal 47 (some 113) ?_ rfl (by kernel_rfl) (by kernel_rfl) (by kernel_rfl) rfl (fun _ _ _ h => h) (by rfl) (by assumption) ?_ ?_
        rotate_left
        · (intro w hSw; (try dsimp only at hSw); go_simp <;> with_reducible rfl)
        simp only [Act.put, List.setIfInBounds_toArray, List.set_cons_zero, List.set_cons_succ]
        refine takeVal 48 (some 114) ?_ rfl (by kernel_rfl) (by kernel_rfl) (by kernel_rfl) rfl (fun _ _ _ h => h) (by rfl) (by assumption) ?_ ?_
        rotate_left
        · (intro w hSw; (try dsimp only at hSw); go_simp <;> with_reducible rfl)
        simp only [Act.put, List.setIfInBounds_toArray, List.set_cons_zero, List.set_cons_succ]
        refine takeVal 49 (some 115) ?_ rfl (by kernel_rfl) (by kernel_rfl) (by kernel_rfl) rfl (fun _ _ _ h => h) (by rfl) (by assumption) ?_ ?_
        rotate_left
        · (intro w hSw; (try dsimp only at hSw); go_simp <;> with_reducible rfl)
        simp only [Act.put, List.setIfInBounds_toArray, List.set_cons_zero, List.set_cons_succ]
        refine takeVal 50 (some 116) ?_ rfl (by kernel_rfl) (by kernel_rfl) (by kernel_rfl) rfl (fun _ _ _ h => h) (by rfl) (by assumption) ?_ ?_
        rotate_left
        · (intro w hSw; (try dsimp only at hSw); go_simp <;> with_reducible rfl)
        simp only [Act.put, List.setIfInBounds_toArray, List.set_cons_zero, List.set_cons_succ]
        refine takeVal 51 (some 117) ?_ rfl (by kernel_rfl) (by kernel_rfl) (by kernel_rfl) rfl (fun _ _ _ h => h) (by rfl) (by assumption) ?_ ?_
        rotate_left
        · (intro w hSw; (try dsimp only at hSw); go_simp <;> with_reducible rfl)
        simp only [Act.put, List.setIfInBounds_toArray, List.set_cons_zero, List.set_cons_succ]
        refine takeVal 52 (some 118) ?_ rfl (by kernel_rfl) (by kernel_rfl) (by kernel_rfl) rfl (fun _ _ _ h => h) (by rfl) (by assumption) ?_ ?_
        rotate_left
        · (intro w hSw; (try dsimp only at hSw); go_simp <;> with_reducible rfl)
        simp only [Act.put, List.setIfInBounds_toArray, List.set_cons_zero, List.set_cons_succ]
        refine takeVal 53 (some 119) ?_ rfl (by kernel_rfl) (by kernel_rfl) (by kernel_rfl) rfl (fun _ _ _ h => h) (by rfl) (by assumption) ?_ ?_
        rotate_left
        · (intro w hSw; (try dsimp only at hSw); go_simp <;> with_reducible rfl)
        simp only [Act.put, List.setIfInBounds_toArray, List.set_cons_zero, List.set_cons_succ]
        refine takeVal 54 (some 120) ?_ rfl (by kernel_rfl) (by kernel_rfl) (by kernel_rfl) rfl (fun _ _ _ h => h) (by rfl) (by assumption) ?_ ?_
        rotate_left
        · (intro w hSw; (try dsimp only at hSw); go_simp <;> with_reducible rfl)
        simp only [Act.put, List.setIfInBounds_toArray, List.set_cons_zero, List.set_cons_succ]
        refine takeVal 55 (some 121) ?_ rfl (by kernel_rfl) (by kernel_rfl) (by kernel_rfl) rfl (fun _ _ _ h => h) (by rfl) (by assumption) ?_ ?_
        rotate_left
        · (intro w hSw; (try dsimp only at hSw); go_simp <;> with_reducible rfl)
        simp only [Act.put, List.setIfInBounds_toArray, List.set_cons_zero, List.set_cons_succ]
        refine takeVal 56 (some 122) ?_ rfl (by kernel_rfl) (by kernel_rfl) (by kernel_rfl) rfl (fun _ _ _ h => h) (by rfl) (by assumption) ?_ ?_
        rotate_left
        · (intro w hSw; (try dsimp only at hSw); go_simp <;> with_reducible rfl)
        simp only [Act.put, List.setIfInBounds_toArray, List.set_cons_zero, List.set_cons_succ]
        refine takeVal 57 (some 123) ?_ rfl (by kernel_rfl) (by kernel_rfl) (by kernel_rfl) rfl (fun _ _ _ h => h) (by rfl) (by assumption) ?_ ?_
        rotate_left
        · (intro w hSw; (try dsimp only at hSw); go_simp <;> with_reducible rfl)
        simp only [Act.put, List.setIfInBounds_toArray, List.set_cons_zero, List.set_cons_succ]
        refine takeVal 58 (some 124) ?_ rfl (by kernel_rfl) (by kernel_rfl) (by kernel_rfl) rfl (fun _ _ _ h => h) (by rfl) (by assumption) ?_ ?_
        rotate_left
        · (intro w hSw; (try dsimp only at hSw); go_simp <;> with_reducible rfl)
        simp only [Act.put, List.setIfInBounds_toArray, List.set_cons_zero, List.set_cons_succ]
        refine takeVal 59 (some 125) ?_ rfl (by kernel_rfl) (by kernel_rfl) (by kernel_rfl) rfl (fun _ _ _ h => h) (by rfl) (by assumption) ?_ ?_
        rotate_left
        · (intro w hSw; (try dsimp only at hSw); go_simp <;> with_reducible rfl)
        simp only [Act.put, List.setIfInBounds_toArray, List.set_cons_zero, List.set_cons_succ]
        refine takeVal 60 (some 126) ?_ rfl (by kernel_rfl) (by kernel_rfl) (by kernel_rfl) rfl (fun _ _ _ h => h) (by rfl) (by assumption) ?_ ?_
        rotate_left
        · (intro w hSw; (try dsimp only at hSw); go_simp <;> with_reducible rfl)
        simp only [Act.put, List.setIfInBounds_toArray, List.set_cons_zero, List.set_cons_succ]
        refine takeVal 61 (some 127) ?_ rfl (by kernel_rfl) (by kernel_rfl) (by kernel_rfl) rfl (fun _ _ _ h => h) (by rfl) (by assumption) ?_ ?_
        rotate_left
        · (intro w hSw; (try dsimp only at hSw); go_simp <;> with_reducible rfl)
        simp only [Act.put, List.setIfInBounds_toArray, List.set_cons_zero, List.set_cons_succ]
        refine takeVal 62 (some 128) ?_ rfl (by kernel_rfl) (by kernel_rfl) (by kernel_rfl) rfl (fun _ _ _ h => h) (by rfl) (by assumption) ?_ ?_
        rotate_left
        · (intro w hSw; (try dsimp only at hSw); go_simp <;> with_reducible rfl)
        simp only [Act.put, List.setIfInBounds_toArray, List.set_cons_zero, List.set_cons_succ]
        refine takeVal 63 (some 2) ?_ rfl (by kernel_rfl) (by kernel_rfl) (by kernel_rfl) rfl (fun _ _ _ h => h) (by rfl) (by assumption) ?_ ?_
        rotate_left
        · (intro w hSw; (try dsimp only at hSw); go_simp <;> with_reducible rfl)
        simp only [Act.put, List.setIfInBounds_toArray, List.set_cons_zero, List.set_cons_succ]
        refine wpAnyH_done (by kernel_rfl) ?_ _
        go_wp2
        go_ret
        exact ⟨rfl, unhide BB⟩
end Go.Proofs.Ytmedhmgihfenhaa
