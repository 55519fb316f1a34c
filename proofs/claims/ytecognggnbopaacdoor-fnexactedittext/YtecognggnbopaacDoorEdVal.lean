/- Edits as values: what the laws' own helpers do to them. Made by gen_edit.py. -/
import Derived.Test.YtecognggnbopaacDoorRangeMarks
import Derived.Test.YtecognggnbopaacDoorBoxA
import Derived.Test.YtecognggnbopaacDoorRegA
import Derived.Test.YtecognggnbopaacDoorSetA
namespace Go.Proofs.YtecognggnbopaacDoor
open Go.RowKit Go.ChangeShapes Go.WideShapes Go.ChangeAt Go.Deep
open Plain
set_option linter.unusedVariables false
set_option linter.unusedSimpArgs false

namespace Plain
structure Ed where
  kind : Int
  box : ByteArray
  dst : ByteArray
  set : List Rg
  how : Int
  bits : Int
  since : Int
  text : ByteArray
/-- None of it is too long. -/
structure SmallEd (L : Nat) (e : Ed) : Prop where
  box : e.box.size ≤ L
  dst : e.dst.size ≤ L
  set : e.set.length ≤ L
  text : e.text.size ≤ L
end Plain
abbrev edV (e : Ed) (v : Value) : Value := .agg #[.int .i64 e.kind, .string e.box, .string e.dst, v, .int .i64 e.how, .int .i64 e.bits, .int .i64 e.since, .string e.text]
/-- An edit that came in. -/
structure ArgEd (B : Nat) (w : World) (a : Option Addr) (e : Ed) : Prop where
  box : e.box.size ≤ maxLen
  dst : e.dst.size ≤ maxLen
  text : e.text.size ≤ maxLen
  m : e.set.length ≤ maxLen
  set : ArgR B w a e.set
theorem ArgEd.up {w w' : World} {a : Option Addr} {e : Ed} (h : ArgEd w.heap.size w a e) (hb : Below w.heap.size w w') : ArgEd w'.heap.size w' a e := ⟨h.box, h.dst, h.text, h.m, h.set.up hb⟩
theorem fill8 {W : World} {r : Nat} {t : TypeId} {v0 v1 v2 v3 v4 v5 v6 v7 : Value} (h : HasObj W r t [v0, v1, v2, v3, v4, v5, v6, v7]) (u0 u1 u2 u3 u4 u5 u6 u7 : Value) :
    Filled W r t [u0, u1, u2, u3, u4, u5, u6, u7] ((((((((W.setCell ⟨r, 0, none⟩ u0).setCell ⟨r, 1, none⟩ u1).setCell ⟨r, 2, none⟩ u2).setCell ⟨r, 3, none⟩ u3).setCell ⟨r, 4, none⟩ u4).setCell ⟨r, 5, none⟩ u5).setCell ⟨r, 6, none⟩ u6).setCell ⟨r, 7, none⟩ u7) := by
  have h1 := h.set 0 u0
  have h2 := h1.set 1 u1
  have h3 := h2.set 2 u2
  have h4 := h3.set 3 u3
  have h5 := h4.set 4 u4
  have h6 := h5.set 5 u5
  have h7 := h6.set 6 u6
  have h8 := h7.set 7 u7
  refine ⟨h8, fun hne hb => ?_, fun hte hr => ?_, fun hn hb => ?_, by simp⟩
  · exact ((((((((hb.other (j := 0) hne u0).other (j := 1) hne u1).other (j := 2) hne u2).other (j := 3) hne u3).other (j := 4) hne u4).other (j := 5) hne u5).other (j := 6) hne u6).other (j := 7) hne u7)
  · exact (h7.row (j := 7) hte (h6.row (j := 6) hte (h5.row (j := 5) hte (h4.row (j := 4) hte (h3.row (j := 3) hte (h2.row (j := 2) hte (h1.row (j := 1) hte (h.row (j := 0) hte hr u0) u1) u2) u3) u4) u5) u6) u7)
  · exact ((((((((hb.setCell (p := ⟨r, 0, none⟩) hn u0).setCell (p := ⟨r, 1, none⟩) hn u1).setCell (p := ⟨r, 2, none⟩) hn u2).setCell (p := ⟨r, 3, none⟩) hn u3).setCell (p := ⟨r, 4, none⟩) hn u4).setCell (p := ⟨r, 5, none⟩) hn u5).setCell (p := ⟨r, 6, none⟩) hn u6).setCell (p := ⟨r, 7, none⟩) hn u7)
set_option maxHeartbeats 4000000 in
set_option maxRecDepth 100000 in
theorem toEdit_any (e : Ed) (a : Option Addr) (c : Nat) (w : World) (hs : SmallEd 1048576 e) (h : ArgEd w.heap.size w a e) :
    Calls Tryd.prog 6 #[.agg #[.int .i64 e.kind, .string e.box, .string e.dst, .slice a e.set.length c, .int .i64 e.how, .int .i64 e.bits, .int .i64 e.since, .string e.text]] w fun x w' => ∃ v, x = .returned (edV e v) ∧ OwnR w.heap.size w' v e.set ∧ Below w.heap.size w w' := by
  have HA := hide h
  have HS := hide hs
  clear h hs
  have BB := hide (Below.refl w.heap.size w)
  obtain ⟨wt1, hA⟩ : ∃ X, X = w.alloc (.cells ([.int .i64 e.kind, .string e.box, .string e.dst, .slice a e.set.length c, .int .i64 e.how, .int .i64 e.bits, .int .i64 e.since, .string e.text] : List Value).toArray 24) := ⟨_, rfl⟩
  have Ax : HasObj wt1 w.heap.size 24 [.int .i64 e.kind, .string e.box, .string e.dst, .slice a e.set.length c, .int .i64 e.how, .int .i64 e.bits, .int .i64 e.since, .string e.text] := by rw [hA]; exact HasObj.new _ _ _
  have hbn : Below w.heap.size w wt1 := by rw [hA]; exact (Below.refl _ _).alloc (Nat.le_refl _) _
  have loA : w.heap.size ≤ w.heap.size := (unhide BB).size
  have EA := hA.symm
  clear hA
  have sz1 := hide (hbn.size)
  have BB_ := hide (below_y (unhide BB) hbn)
  clear BB
  have BB := BB_
  clear BB_
  clear hbn
  have A := hide Ax
  clear Ax
  obtain ⟨wt2, hR⟩ : ∃ X, X = wt1.alloc (.cells ([.int .i64 0, .string ⟨#[]⟩, .string ⟨#[]⟩, .slice none 0 0, .int .i64 0, .int .i64 0, .int .i64 0, .string ⟨#[]⟩] : List Value).toArray 30) := ⟨_, rfl⟩
  have Rx : HasObj wt2 wt1.heap.size 30 [.int .i64 0, .string ⟨#[]⟩, .string ⟨#[]⟩, .slice none 0 0, .int .i64 0, .int .i64 0, .int .i64 0, .string ⟨#[]⟩] := by rw [hR]; exact HasObj.new _ _ _
  have hbn : Below wt1.heap.size wt1 wt2 := by rw [hR]; exact (Below.refl _ _).alloc (Nat.le_refl _) _
  have neAR : w.heap.size ≠ wt1.heap.size := Nat.ne_of_lt (unhide A).lt
  have loR : w.heap.size ≤ wt1.heap.size := (unhide BB).size
  have ER := hR.symm
  clear hR
  have A_ := hide ((unhide A).ups hbn)
  clear A
  have A := A_
  clear A_
  have sz2 := hide (hbn.size)
  have BB_ := hide (below_y (unhide BB) hbn)
  clear BB
  have BB := BB_
  clear BB_
  clear hbn
  have R := hide Rx
  clear Rx
  obtain ⟨wt3, hO⟩ : ∃ X, X = wt2.alloc (.cells ([.int .i64 0, .string ⟨#[]⟩, .string ⟨#[]⟩, .slice none 0 0, .int .i64 0, .int .i64 0, .int .i64 0, .string ⟨#[]⟩] : List Value).toArray 30) := ⟨_, rfl⟩
  have Ox : HasObj wt3 wt2.heap.size 30 [.int .i64 0, .string ⟨#[]⟩, .string ⟨#[]⟩, .slice none 0 0, .int .i64 0, .int .i64 0, .int .i64 0, .string ⟨#[]⟩] := by rw [hO]; exact HasObj.new _ _ _
  have hbn : Below wt2.heap.size wt2 wt3 := by rw [hO]; exact (Below.refl _ _).alloc (Nat.le_refl _) _
  have neAO : w.heap.size ≠ wt2.heap.size := Nat.ne_of_lt (unhide A).lt
  have neRO : wt1.heap.size ≠ wt2.heap.size := Nat.ne_of_lt (unhide R).lt
  have loO : w.heap.size ≤ wt2.heap.size := (unhide BB).size
  have EO := hO.symm
  clear hO
  have A_ := hide ((unhide A).ups hbn)
  clear A
  have A := A_
  clear A_
  have R_ := hide ((unhide R).ups hbn)
  clear R
  have R := R_
  clear R_
  have sz3 := hide (hbn.size)
  have BB_ := hide (below_y (unhide BB) hbn)
  clear BB
  have BB := BB_
  clear BB_
  clear hbn
  have O := hide Ox
  clear Ox
  have Ac0_1 := (unhide A).cell 0 rfl
  have Ac1_1 := (unhide A).cell 1 rfl
  have Ac2_1 := (unhide A).cell 2 rfl
  have Ac3_1 := (unhide A).cell 3 rfl
  have Ac4_1 := (unhide A).cell 4 rfl
  have Ac5_1 := (unhide A).cell 5 rfl
  have Ac6_1 := (unhide A).cell 6 rfl
  have Ac7_1 := (unhide A).cell 7 rfl
  have Ofz0_2 := (unhide O).frozen 0
  have Ocz0_2 := (unhide O).cell 0 rfl
  obtain ⟨wt4, hst⟩ : ∃ X, X = wt3.setCell ⟨wt2.heap.size, 0, none⟩ (.int .i64 e.kind) := ⟨_, rfl⟩
  have A_ := hide ((unhide A).other (j := 0) neAO (.int .i64 e.kind))
  rw [← hst] at A_
  have R_ := hide ((unhide R).other (j := 0) neRO (.int .i64 e.kind))
  rw [← hst] at R_
  have O_ := hide ((unhide O).set 0 (.int .i64 e.kind))
  rw [← hst] at O_
  have BB_ := hide ((unhide BB).setCell (p := ⟨wt2.heap.size, 0, none⟩) (show w.heap.size ≤ wt2.heap.size from loO) (.int .i64 e.kind))
  rw [← hst] at BB_
  have sz4 : Hid (wt3.heap.size ≤ wt4.heap.size) := by show _ ≤ _; rw [hst]; simp
  clear A
  have A := A_
  clear A_
  clear R
  have R := R_
  clear R_
  clear O
  have O := O_
  clear O_
  clear BB
  have BB := BB_
  clear BB_
  have Est4 := hst.symm
  clear hst
  have Ac0_3 := (unhide A).cell 0 rfl
  have Ac1_3 := (unhide A).cell 1 rfl
  have Ac2_3 := (unhide A).cell 2 rfl
  have Ac3_3 := (unhide A).cell 3 rfl
  have Ac4_3 := (unhide A).cell 4 rfl
  have Ac5_3 := (unhide A).cell 5 rfl
  have Ac6_3 := (unhide A).cell 6 rfl
  have Ac7_3 := (unhide A).cell 7 rfl
  have Ofz1_4 := (unhide O).frozen 1
  have Ocz1_4 := (unhide O).cell 1 rfl
  obtain ⟨wt5, hst⟩ : ∃ X, X = wt4.setCell ⟨wt2.heap.size, 1, none⟩ (.string e.box) := ⟨_, rfl⟩
  have A_ := hide ((unhide A).other (j := 1) neAO (.string e.box))
  rw [← hst] at A_
  have R_ := hide ((unhide R).other (j := 1) neRO (.string e.box))
  rw [← hst] at R_
  have O_ := hide ((unhide O).set 1 (.string e.box))
  rw [← hst] at O_
  have BB_ := hide ((unhide BB).setCell (p := ⟨wt2.heap.size, 1, none⟩) (show w.heap.size ≤ wt2.heap.size from loO) (.string e.box))
  rw [← hst] at BB_
  have sz5 : Hid (wt4.heap.size ≤ wt5.heap.size) := by show _ ≤ _; rw [hst]; simp
  clear A
  have A := A_
  clear A_
  clear R
  have R := R_
  clear R_
  clear O
  have O := O_
  clear O_
  clear BB
  have BB := BB_
  clear BB_
  have Est5 := hst.symm
  clear hst
  have Ac0_5 := (unhide A).cell 0 rfl
  have Ac1_5 := (unhide A).cell 1 rfl
  have Ac2_5 := (unhide A).cell 2 rfl
  have Ac3_5 := (unhide A).cell 3 rfl
  have Ac4_5 := (unhide A).cell 4 rfl
  have Ac5_5 := (unhide A).cell 5 rfl
  have Ac6_5 := (unhide A).cell 6 rfl
  have Ac7_5 := (unhide A).cell 7 rfl
  have Ofz2_6 := (unhide O).frozen 2
  have Ocz2_6 := (unhide O).cell 2 rfl
  obtain ⟨wt6, hst⟩ : ∃ X, X = wt5.setCell ⟨wt2.heap.size, 2, none⟩ (.string e.dst) := ⟨_, rfl⟩
  have A_ := hide ((unhide A).other (j := 2) neAO (.string e.dst))
  rw [← hst] at A_
  have R_ := hide ((unhide R).other (j := 2) neRO (.string e.dst))
  rw [← hst] at R_
  have O_ := hide ((unhide O).set 2 (.string e.dst))
  rw [← hst] at O_
  have BB_ := hide ((unhide BB).setCell (p := ⟨wt2.heap.size, 2, none⟩) (show w.heap.size ≤ wt2.heap.size from loO) (.string e.dst))
  rw [← hst] at BB_
  have sz6 : Hid (wt5.heap.size ≤ wt6.heap.size) := by show _ ≤ _; rw [hst]; simp
  clear A
  have A := A_
  clear A_
  clear R
  have R := R_
  clear R_
  clear O
  have O := O_
  clear O_
  clear BB
  have BB := BB_
  clear BB_
  have Est6 := hst.symm
  clear hst
  have Ac0_7 := (unhide A).cell 0 rfl
  have Ac1_7 := (unhide A).cell 1 rfl
  have Ac2_7 := (unhide A).cell 2 rfl
  have Ac3_7 := (unhide A).cell 3 rfl
  have Ac4_7 := (unhide A).cell 4 rfl
  have Ac5_7 := (unhide A).cell 5 rfl
  have Ac6_7 := (unhide A).cell 6 rfl
  have Ac7_7 := (unhide A).cell 7 rfl
  go_enter Tryd.func6, Tryd.ntmps6
  go_wp2_with fail
  clear Ac0_1 Ac1_1 Ac2_1 Ac3_1 Ac4_1 Ac5_1 Ac6_1 Ac7_1 Ofz0_2 Ocz0_2 Ac0_3 Ac1_3 Ac2_3 Ac3_3 Ac4_3 Ac5_3 Ac6_3 Ac7_3 Ofz1_4 Ocz1_4 Ac0_5 Ac1_5 Ac2_5 Ac3_5 Ac4_5 Ac5_5 Ac6_5 Ac7_5 Ofz2_6 Ocz2_6 Ac0_7 Ac1_7 Ac2_7 Ac3_7 Ac4_7 Ac5_7 Ac6_7 Ac7_7 EA ER EO Est4 Est5 Est6
  have LO := hide (unhide BB).size
  refine (toRangeS_any a c e.set _ (unhide HS).set ((unhide HA).up (unhide BB)).set).mono ?_
  rintro x wt7 ⟨v, rfl, oR, hb⟩
  obtain ⟨ar, cr, rfl⟩ := g_shape oR
  have OR_ : Hid (OwnR w.heap.size wt7 (.slice ar e.set.length cr) e.set) := g_based oR (unhide LO)
  clear oR
  have A_ := hide ((unhide A).ups hb)
  clear A
  have A := A_
  clear A_
  have R_ := hide ((unhide R).ups hb)
  clear R
  have R := R_
  clear R_
  have O_ := hide ((unhide O).ups hb)
  clear O
  have O := O_
  clear O_
  have sz7 := hide (hb.size)
  have BB_ := hide (below_y (unhide BB) hb)
  clear BB
  have BB := BB_
  clear BB_
  clear hb
  have OR := OR_
  clear OR_
  have Ac0_8 := (unhide A).cell 0 rfl
  have Ac1_8 := (unhide A).cell 1 rfl
  have Ac2_8 := (unhide A).cell 2 rfl
  have Ac3_8 := (unhide A).cell 3 rfl
  have Ac4_8 := (unhide A).cell 4 rfl
  have Ac5_8 := (unhide A).cell 5 rfl
  have Ac6_8 := (unhide A).cell 6 rfl
  have Ac7_8 := (unhide A).cell 7 rfl
  have Ofz3_9 := (unhide O).frozen 3
  have Ocz3_9 := (unhide O).cell 3 rfl
  obtain ⟨wt8, hst⟩ : ∃ X, X = wt7.setCell ⟨wt2.heap.size, 3, none⟩ (.slice ar e.set.length cr) := ⟨_, rfl⟩
  have OR_ : Hid (OwnR w.heap.size wt8 (.slice ar e.set.length cr) (e.set)) := by show OwnR _ _ _ _; rw [hst]; exact (unhide O).row (j := 3) (by decide) (unhide OR) _
  have A_ := hide ((unhide A).other (j := 3) neAO (.slice ar e.set.length cr))
  rw [← hst] at A_
  have R_ := hide ((unhide R).other (j := 3) neRO (.slice ar e.set.length cr))
  rw [← hst] at R_
  have O_ := hide ((unhide O).set 3 (.slice ar e.set.length cr))
  rw [← hst] at O_
  have BB_ := hide ((unhide BB).setCell (p := ⟨wt2.heap.size, 3, none⟩) (show w.heap.size ≤ wt2.heap.size from loO) (.slice ar e.set.length cr))
  rw [← hst] at BB_
  have sz8 : Hid (wt7.heap.size ≤ wt8.heap.size) := by show _ ≤ _; rw [hst]; simp
  clear OR
  have OR := OR_
  clear OR_
  clear A
  have A := A_
  clear A_
  clear R
  have R := R_
  clear R_
  clear O
  have O := O_
  clear O_
  clear BB
  have BB := BB_
  clear BB_
  have Est8 := hst.symm
  clear hst
  have Ac0_10 := (unhide A).cell 0 rfl
  have Ac1_10 := (unhide A).cell 1 rfl
  have Ac2_10 := (unhide A).cell 2 rfl
  have Ac3_10 := (unhide A).cell 3 rfl
  have Ac4_10 := (unhide A).cell 4 rfl
  have Ac5_10 := (unhide A).cell 5 rfl
  have Ac6_10 := (unhide A).cell 6 rfl
  have Ac7_10 := (unhide A).cell 7 rfl
  have Ofz4_11 := (unhide O).frozen 4
  have Ocz4_11 := (unhide O).cell 4 rfl
  obtain ⟨wt9, hst⟩ : ∃ X, X = wt8.setCell ⟨wt2.heap.size, 4, none⟩ (.int .i64 e.how) := ⟨_, rfl⟩
  have OR_ : Hid (OwnR w.heap.size wt9 (.slice ar e.set.length cr) (e.set)) := by show OwnR _ _ _ _; rw [hst]; exact (unhide O).row (j := 4) (by decide) (unhide OR) _
  have A_ := hide ((unhide A).other (j := 4) neAO (.int .i64 e.how))
  rw [← hst] at A_
  have R_ := hide ((unhide R).other (j := 4) neRO (.int .i64 e.how))
  rw [← hst] at R_
  have O_ := hide ((unhide O).set 4 (.int .i64 e.how))
  rw [← hst] at O_
  have BB_ := hide ((unhide BB).setCell (p := ⟨wt2.heap.size, 4, none⟩) (show w.heap.size ≤ wt2.heap.size from loO) (.int .i64 e.how))
  rw [← hst] at BB_
  have sz9 : Hid (wt8.heap.size ≤ wt9.heap.size) := by show _ ≤ _; rw [hst]; simp
  clear OR
  have OR := OR_
  clear OR_
  clear A
  have A := A_
  clear A_
  clear R
  have R := R_
  clear R_
  clear O
  have O := O_
  clear O_
  clear BB
  have BB := BB_
  clear BB_
  have Est9 := hst.symm
  clear hst
  have Ac0_12 := (unhide A).cell 0 rfl
  have Ac1_12 := (unhide A).cell 1 rfl
  have Ac2_12 := (unhide A).cell 2 rfl
  have Ac3_12 := (unhide A).cell 3 rfl
  have Ac4_12 := (unhide A).cell 4 rfl
  have Ac5_12 := (unhide A).cell 5 rfl
  have Ac6_12 := (unhide A).cell 6 rfl
  have Ac7_12 := (unhide A).cell 7 rfl
  have Ofz5_13 := (unhide O).frozen 5
  have Ocz5_13 := (unhide O).cell 5 rfl
  obtain ⟨wt10, hst⟩ : ∃ X, X = wt9.setCell ⟨wt2.heap.size, 5, none⟩ (.int .i64 e.bits) := ⟨_, rfl⟩
  have OR_ : Hid (OwnR w.heap.size wt10 (.slice ar e.set.length cr) (e.set)) := by show OwnR _ _ _ _; rw [hst]; exact (unhide O).row (j := 5) (by decide) (unhide OR) _
  have A_ := hide ((unhide A).other (j := 5) neAO (.int .i64 e.bits))
  rw [← hst] at A_
  have R_ := hide ((unhide R).other (j := 5) neRO (.int .i64 e.bits))
  rw [← hst] at R_
  have O_ := hide ((unhide O).set 5 (.int .i64 e.bits))
  rw [← hst] at O_
  have BB_ := hide ((unhide BB).setCell (p := ⟨wt2.heap.size, 5, none⟩) (show w.heap.size ≤ wt2.heap.size from loO) (.int .i64 e.bits))
  rw [← hst] at BB_
  have sz10 : Hid (wt9.heap.size ≤ wt10.heap.size) := by show _ ≤ _; rw [hst]; simp
  clear OR
  have OR := OR_
  clear OR_
  clear A
  have A := A_
  clear A_
  clear R
  have R := R_
  clear R_
  clear O
  have O := O_
  clear O_
  clear BB
  have BB := BB_
  clear BB_
  have Est10 := hst.symm
  clear hst
  have Ac0_14 := (unhide A).cell 0 rfl
  have Ac1_14 := (unhide A).cell 1 rfl
  have Ac2_14 := (unhide A).cell 2 rfl
  have Ac3_14 := (unhide A).cell 3 rfl
  have Ac4_14 := (unhide A).cell 4 rfl
  have Ac5_14 := (unhide A).cell 5 rfl
  have Ac6_14 := (unhide A).cell 6 rfl
  have Ac7_14 := (unhide A).cell 7 rfl
  have Ofz6_15 := (unhide O).frozen 6
  have Ocz6_15 := (unhide O).cell 6 rfl
  obtain ⟨wt11, hst⟩ : ∃ X, X = wt10.setCell ⟨wt2.heap.size, 6, none⟩ (.int .i64 e.since) := ⟨_, rfl⟩
  have OR_ : Hid (OwnR w.heap.size wt11 (.slice ar e.set.length cr) (e.set)) := by show OwnR _ _ _ _; rw [hst]; exact (unhide O).row (j := 6) (by decide) (unhide OR) _
  have A_ := hide ((unhide A).other (j := 6) neAO (.int .i64 e.since))
  rw [← hst] at A_
  have R_ := hide ((unhide R).other (j := 6) neRO (.int .i64 e.since))
  rw [← hst] at R_
  have O_ := hide ((unhide O).set 6 (.int .i64 e.since))
  rw [← hst] at O_
  have BB_ := hide ((unhide BB).setCell (p := ⟨wt2.heap.size, 6, none⟩) (show w.heap.size ≤ wt2.heap.size from loO) (.int .i64 e.since))
  rw [← hst] at BB_
  have sz11 : Hid (wt10.heap.size ≤ wt11.heap.size) := by show _ ≤ _; rw [hst]; simp
  clear OR
  have OR := OR_
  clear OR_
  clear A
  have A := A_
  clear A_
  clear R
  have R := R_
  clear R_
  clear O
  have O := O_
  clear O_
  clear BB
  have BB := BB_
  clear BB_
  have Est11 := hst.symm
  clear hst
  have Ac0_16 := (unhide A).cell 0 rfl
  have Ac1_16 := (unhide A).cell 1 rfl
  have Ac2_16 := (unhide A).cell 2 rfl
  have Ac3_16 := (unhide A).cell 3 rfl
  have Ac4_16 := (unhide A).cell 4 rfl
  have Ac5_16 := (unhide A).cell 5 rfl
  have Ac6_16 := (unhide A).cell 6 rfl
  have Ac7_16 := (unhide A).cell 7 rfl
  have Ofz7_17 := (unhide O).frozen 7
  have Ocz7_17 := (unhide O).cell 7 rfl
  obtain ⟨wt12, hst⟩ : ∃ X, X = wt11.setCell ⟨wt2.heap.size, 7, none⟩ (.string e.text) := ⟨_, rfl⟩
  have OR_ : Hid (OwnR w.heap.size wt12 (.slice ar e.set.length cr) (e.set)) := by show OwnR _ _ _ _; rw [hst]; exact (unhide O).row (j := 7) (by decide) (unhide OR) _
  have A_ := hide ((unhide A).other (j := 7) neAO (.string e.text))
  rw [← hst] at A_
  have R_ := hide ((unhide R).other (j := 7) neRO (.string e.text))
  rw [← hst] at R_
  have O_ := hide ((unhide O).set 7 (.string e.text))
  rw [← hst] at O_
  have BB_ := hide ((unhide BB).setCell (p := ⟨wt2.heap.size, 7, none⟩) (show w.heap.size ≤ wt2.heap.size from loO) (.string e.text))
  rw [← hst] at BB_
  have sz12 : Hid (wt11.heap.size ≤ wt12.heap.size) := by show _ ≤ _; rw [hst]; simp
  clear OR
  have OR := OR_
  clear OR_
  clear A
  have A := A_
  clear A_
  clear R
  have R := R_
  clear R_
  clear O
  have O := O_
  clear O_
  clear BB
  have BB := BB_
  clear BB_
  have Est12 := hst.symm
  clear hst
  have Ac0_18 := (unhide A).cell 0 rfl
  have Ac1_18 := (unhide A).cell 1 rfl
  have Ac2_18 := (unhide A).cell 2 rfl
  have Ac3_18 := (unhide A).cell 3 rfl
  have Ac4_18 := (unhide A).cell 4 rfl
  have Ac5_18 := (unhide A).cell 5 rfl
  have Ac6_18 := (unhide A).cell 6 rfl
  have Ac7_18 := (unhide A).cell 7 rfl
  have Oc0_19 := (unhide O).cell 0 rfl
  have Oc1_19 := (unhide O).cell 1 rfl
  have Oc2_19 := (unhide O).cell 2 rfl
  have Oc3_19 := (unhide O).cell 3 rfl
  have Oc4_19 := (unhide O).cell 4 rfl
  have Oc5_19 := (unhide O).cell 5 rfl
  have Oc6_19 := (unhide O).cell 6 rfl
  have Oc7_19 := (unhide O).cell 7 rfl
  have Rf0 := (unhide R).frozen 0
  have Rf1 := (unhide R).frozen 1
  have Rf2 := (unhide R).frozen 2
  have Rf3 := (unhide R).frozen 3
  have Rf4 := (unhide R).frozen 4
  have Rf5 := (unhide R).frozen 5
  have Rf6 := (unhide R).frozen 6
  have Rf7 := (unhide R).frozen 7
  have Re0 := (unhide R).cell 0 rfl
  have Re1 := (unhide R).cell 1 rfl
  have Re2 := (unhide R).cell 2 rfl
  have Re3 := (unhide R).cell 3 rfl
  have Re4 := (unhide R).cell 4 rfl
  have Re5 := (unhide R).cell 5 rfl
  have Re6 := (unhide R).cell 6 rfl
  have Re7 := (unhide R).cell 7 rfl
  have F := hide (fill8 (unhide R) (.int .i64 e.kind) (.string e.box) (.string e.dst) (.slice ar e.set.length cr) (.int .i64 e.how) (.int .i64 e.bits) (.int .i64 e.since) (.string e.text))
  obtain ⟨U, hU⟩ : ∃ U, U = ((((((((wt12.setCell ⟨wt1.heap.size, 0, none⟩ (.int .i64 e.kind)).setCell ⟨wt1.heap.size, 1, none⟩ (.string e.box)).setCell ⟨wt1.heap.size, 2, none⟩ (.string e.dst)).setCell ⟨wt1.heap.size, 3, none⟩ (.slice ar e.set.length cr)).setCell ⟨wt1.heap.size, 4, none⟩ (.int .i64 e.how)).setCell ⟨wt1.heap.size, 5, none⟩ (.int .i64 e.bits)).setCell ⟨wt1.heap.size, 6, none⟩ (.int .i64 e.since)).setCell ⟨wt1.heap.size, 7, none⟩ (.string e.text)) := ⟨_, rfl⟩
  have F9 := unhide F
  rw [← hU] at F9
  have EU := hU.symm
  clear F hU
  have v0 := F9.obj.cell 0 rfl
  have v1 := F9.obj.cell 1 rfl
  have v2 := F9.obj.cell 2 rfl
  have v3 := F9.obj.cell 3 rfl
  have v4 := F9.obj.cell 4 rfl
  have v5 := F9.obj.cell 5 rfl
  have v6 := F9.obj.cell 6 rfl
  have v7 := F9.obj.cell 7 rfl
  have F := hide F9
  clear F9
  go_wp2_with (refine bodyPost_ret (by simp [results, Tryd.results6, go_sem, v0, v1, v2, v3, v4, v5, v6, v7]; try rfl) rfl ?_)
  clear EU
  have F := unhide F
  exact ⟨_, rfl, F.row (by decide) (unhide OR), F.below loR (unhide BB)⟩
set_option maxHeartbeats 4000000 in
set_option maxRecDepth 100000 in
theorem szEdit_any (e : Ed) (a : Option Addr) (c : Nat) (w : World) (h : ArgEd w.heap.size w a e) :
    Calls Tryd.prog 4 #[.agg #[.int .i64 e.kind, .string e.box, .string e.dst, .slice a e.set.length c, .int .i64 e.how, .int .i64 e.bits, .int .i64 e.since, .string e.text], .int .i64 1048576] w fun x w' => (∃ m : Int, x = .returned (.int .i64 m) ∧ (m = -1 ∨ ∃ q : Nat, m = (q : Int) ∧ q ≤ 1048576 ∧ SmallEd 1048576 e)) ∧ Below w.heap.size w w' := by
  have hb := h.box
  have hd := h.dst
  have ht := h.text
  have hm := h.m
  unfold maxLen at hb hd ht
  clear h
  by_cases h1 : e.box.size ≤ 1048576
  · obtain ⟨L, hL⟩ : ∃ L, L = 1048576 - e.box.size := ⟨_, rfl⟩
    have e0 : (1048576 : Int) - (e.box.size : Int) = (L : Int) := by omega
    have i0 : ¬ (L : Int) < 0 := by omega
    by_cases h2 : e.dst.size ≤ L
    · obtain ⟨M, hM⟩ : ∃ M, M = L - e.dst.size := ⟨_, rfl⟩
      have e1 : (L : Int) - (e.dst.size : Int) = (M : Int) := by omega
      have i1 : ¬ (M : Int) < 0 := by omega
      have HR := hide (fun W => szRangeS_any a c e.set.length M W (by omega) hm)
      have HL := hide hL
      have HM := hide hM
      clear hL hM
      obtain ⟨X, hX⟩ : ∃ X, X = w.alloc (.cells ([.int .i64 e.kind, .string e.box, .string e.dst, .slice a e.set.length c, .int .i64 e.how, .int .i64 e.bits, .int .i64 e.since, .string e.text] : List Value).toArray 24) := ⟨_, rfl⟩
      have x0 : HasObj X w.heap.size 24 [.int .i64 e.kind, .string e.box, .string e.dst, .slice a e.set.length c, .int .i64 e.how, .int .i64 e.bits, .int .i64 e.since, .string e.text] := by rw [hX]; exact HasObj.new _ _ _
      have BX : Hid (Below w.heap.size w X) := by show Below _ _ _; rw [hX]; exact (Below.refl _ _).alloc (Nat.le_refl _) _
      have k1 := x0.cell 1 rfl
      have k2 := x0.cell 2 rfl
      have k3 := x0.cell 3 rfl
      have k7 := x0.cell 7 rfl
      have HX := hX.symm
      clear hX x0
      go_enter Tryd.func4, Tryd.ntmps4
      go_wp2_with fail
      refine (unhide HR _).mono ?_
      rintro x w1 ⟨⟨m, rfl, hmm⟩, hw⟩
      rw [hw]
      clear hw HR
      rcases hmm with rfl | ⟨q, rfl, hq, hs⟩
      · go_wp2
        go_ret
        exact ⟨⟨_, rfl, .inl rfl⟩, unhide BX⟩
      · have i2 : ¬ (q : Int) < 0 := by omega
        by_cases h3 : e.text.size ≤ q
        · obtain ⟨N, hN⟩ : ∃ N, N = q - e.text.size := ⟨_, rfl⟩
          have e2 : (q : Int) - (e.text.size : Int) = (N : Int) := by omega
          have i3 : ¬ (N : Int) < 0 := by omega
          have HN := hide hN
          clear hN
          go_wp2
          go_ret
          exact ⟨⟨_, rfl, .inr ⟨N, rfl, by have := unhide HN; omega, ⟨h1, by have := unhide HL; omega, by have := unhide HL; have := unhide HM; omega, by omega⟩⟩⟩, unhide BX⟩
        · have i3 : (q : Int) - (e.text.size : Int) < 0 := by omega
          go_wp2
          go_ret
          exact ⟨⟨_, rfl, .inl rfl⟩, unhide BX⟩
    · have i1 : (L : Int) - (e.dst.size : Int) < 0 := by omega
      clear hL
      go_enter Tryd.func4, Tryd.ntmps4
      go_wp2
      go_ret
      exact ⟨⟨_, rfl, .inl rfl⟩, (Below.refl _ _).alloc (Nat.le_refl _) _⟩
  · have e0 : (1048576 : Int) - (e.box.size : Int) < 0 := by omega
    go_enter Tryd.func4, Tryd.ntmps4
    go_wp2
    go_ret
    exact ⟨⟨_, rfl, .inl rfl⟩, (Below.refl _ _).alloc (Nat.le_refl _) _⟩
set_option maxHeartbeats 4000000 in
set_option maxRecDepth 100000 in
theorem eqEdit_same (e : Ed) (v1 v2 : Value) (B1 B2 : Nat) (w : World) (hs : e.set.length ≤ 1048576) (h1 : OwnR B1 w v1 e.set) (h2 : OwnR B2 w v2 e.set) :
    Calls Tryd.prog 8 #[edV e v1, edV e v2] w fun x w' => x = .returned (.bool true) ∧ Below w.heap.size w w' := by
  obtain ⟨r1, c1, rfl⟩ := g_shape h1
  obtain ⟨r2, c2, rfl⟩ := g_shape h2
  have O1 := hide h1
  have O2 := hide h2
  clear h1 h2
  have BB := hide (Below.refl w.heap.size w)
  obtain ⟨wq1, hA⟩ : ∃ X, X = w.alloc (.cells ([.int .i64 e.kind, .string e.box, .string e.dst, .slice r1 e.set.length c1, .int .i64 e.how, .int .i64 e.bits, .int .i64 e.since, .string e.text] : List Value).toArray 30) := ⟨_, rfl⟩
  have Ax : HasObj wq1 w.heap.size 30 [.int .i64 e.kind, .string e.box, .string e.dst, .slice r1 e.set.length c1, .int .i64 e.how, .int .i64 e.bits, .int .i64 e.since, .string e.text] := by rw [hA]; exact HasObj.new _ _ _
  have hbn : Below w.heap.size w wq1 := by rw [hA]; exact (Below.refl _ _).alloc (Nat.le_refl _) _
  have loA : w.heap.size ≤ w.heap.size := (unhide BB).size
  have EA := hA.symm
  clear hA
  have O1_ := hide ((unhide O1).up hbn)
  clear O1
  have O1 := O1_
  clear O1_
  have O2_ := hide ((unhide O2).up hbn)
  clear O2
  have O2 := O2_
  clear O2_
  have sz1 := hide (hbn.size)
  have BB_ := hide (below_y (unhide BB) hbn)
  clear BB
  have BB := BB_
  clear BB_
  clear hbn
  have A := hide Ax
  clear Ax
  obtain ⟨wq2, hD⟩ : ∃ X, X = wq1.alloc (.cells ([.int .i64 e.kind, .string e.box, .string e.dst, .slice r2 e.set.length c2, .int .i64 e.how, .int .i64 e.bits, .int .i64 e.since, .string e.text] : List Value).toArray 30) := ⟨_, rfl⟩
  have Dx : HasObj wq2 wq1.heap.size 30 [.int .i64 e.kind, .string e.box, .string e.dst, .slice r2 e.set.length c2, .int .i64 e.how, .int .i64 e.bits, .int .i64 e.since, .string e.text] := by rw [hD]; exact HasObj.new _ _ _
  have hbn : Below wq1.heap.size wq1 wq2 := by rw [hD]; exact (Below.refl _ _).alloc (Nat.le_refl _) _
  have neAD : w.heap.size ≠ wq1.heap.size := Nat.ne_of_lt (unhide A).lt
  have loD : w.heap.size ≤ wq1.heap.size := (unhide BB).size
  have ED := hD.symm
  clear hD
  have A_ := hide ((unhide A).ups hbn)
  clear A
  have A := A_
  clear A_
  have O1_ := hide ((unhide O1).up hbn)
  clear O1
  have O1 := O1_
  clear O1_
  have O2_ := hide ((unhide O2).up hbn)
  clear O2
  have O2 := O2_
  clear O2_
  have sz2 := hide (hbn.size)
  have BB_ := hide (below_y (unhide BB) hbn)
  clear BB
  have BB := BB_
  clear BB_
  clear hbn
  have D := hide Dx
  clear Dx
  have Ac0_1 := (unhide A).cell 0 rfl
  have Ac1_1 := (unhide A).cell 1 rfl
  have Ac2_1 := (unhide A).cell 2 rfl
  have Ac3_1 := (unhide A).cell 3 rfl
  have Ac4_1 := (unhide A).cell 4 rfl
  have Ac5_1 := (unhide A).cell 5 rfl
  have Ac6_1 := (unhide A).cell 6 rfl
  have Ac7_1 := (unhide A).cell 7 rfl
  have Dc0_2 := (unhide D).cell 0 rfl
  have Dc1_2 := (unhide D).cell 1 rfl
  have Dc2_2 := (unhide D).cell 2 rfl
  have Dc3_2 := (unhide D).cell 3 rfl
  have Dc4_2 := (unhide D).cell 4 rfl
  have Dc5_2 := (unhide D).cell 5 rfl
  have Dc6_2 := (unhide D).cell 6 rfl
  have Dc7_2 := (unhide D).cell 7 rfl
  go_enter Tryd.func8, Tryd.ntmps8
  go_wp2_with fail
  clear Ac0_1 Ac1_1 Ac2_1 Ac3_1 Ac4_1 Ac5_1 Ac6_1 Ac7_1 Dc0_2 Dc1_2 Dc2_2 Dc3_2 Dc4_2 Dc5_2 Dc6_2 Dc7_2 EA ED
  refine (eqRangeS_same e.set _ _ _ _ _ hs (unhide O1) (unhide O2)).mono ?_
  rintro e wq3 ⟨rfl, hb⟩
  have A_ := hide ((unhide A).ups hb)
  clear A
  have A := A_
  clear A_
  have D_ := hide ((unhide D).ups hb)
  clear D
  have D := D_
  clear D_
  have O1_ := hide ((unhide O1).up hb)
  clear O1
  have O1 := O1_
  clear O1_
  have O2_ := hide ((unhide O2).up hb)
  clear O2
  have O2 := O2_
  clear O2_
  have sz3 := hide (hb.size)
  have BB_ := hide (below_y (unhide BB) hb)
  clear BB
  have BB := BB_
  clear BB_
  clear hb
  have Ac0_3 := (unhide A).cell 0 rfl
  have Ac1_3 := (unhide A).cell 1 rfl
  have Ac2_3 := (unhide A).cell 2 rfl
  have Ac3_3 := (unhide A).cell 3 rfl
  have Ac4_3 := (unhide A).cell 4 rfl
  have Ac5_3 := (unhide A).cell 5 rfl
  have Ac6_3 := (unhide A).cell 6 rfl
  have Ac7_3 := (unhide A).cell 7 rfl
  have Dc0_4 := (unhide D).cell 0 rfl
  have Dc1_4 := (unhide D).cell 1 rfl
  have Dc2_4 := (unhide D).cell 2 rfl
  have Dc3_4 := (unhide D).cell 3 rfl
  have Dc4_4 := (unhide D).cell 4 rfl
  have Dc5_4 := (unhide D).cell 5 rfl
  have Dc6_4 := (unhide D).cell 6 rfl
  have Dc7_4 := (unhide D).cell 7 rfl
  go_wp2
  go_ret
  exact ⟨rfl, unhide BB⟩
theorem Tryd.cellsLEdit : Tryd.prog.cellsOf 24 = 8 := by kernel_rfl
theorem Tryd.cellsLRangeS : Tryd.prog.cellsOf 22 = 1 := by kernel_rfl
theorem Tryd.cellsEdInt : Tryd.prog.cellsOf 3 = 1 := by kernel_rfl
theorem Tryd.cellsEdStr : Tryd.prog.cellsOf 9 = 1 := by kernel_rfl
set_option maxRecDepth 100000 in
theorem open_rg {H : Type} {enc : TypeId × Value → H} {W : World} {base : Nat} {sp : Nat → Bool} {held : Bool} {fuel : Nat} {cs : List Value} {x : DataW H × List MemPlace}
    (hf : DataW.trod enc Tryd.prog W base sp held fuel 22 cs = some x) :
    ∃ (a : Option Addr) (cap : Nat) (l : List Rg), cs = [.slice a l.length cap] ∧ l.length ≤ maxLen ∧ ArgR W.heap.size W a l := by
  rcases open_slice Tryd.underlying22 hf with ⟨hcs, _⟩ | ⟨a, vn, cap, m, n, D, Pl, hcs, _, hlc, hcm, hm, _, hel⟩
  · exact ⟨none, 0, [], hcs, Nat.zero_le _, fun i f hf => by simp at hf⟩
  · subst hcs
    have hm' : vn ≤ m := by rw [hm]; split <;> omega
    have each : ∀ i, i < vn → ∃ f : Rg, W.cell? (a.add (i * 2)) = some (.int .i64 f.lo) ∧ W.cell? ⟨(a.add (i * 2)).block, (a.add (i * 2)).off + 1, none⟩ = some (.int .i64 f.hi) := by
      intro i hi
      obtain ⟨cs', h1, h2⟩ := hel i (by omega)
      rw [Tryd.cellsLRange] at h1
      obtain ⟨_, hlen, hc⟩ := World.cells?_some h1
      obtain ⟨xs, n', _, _, hl', hlen', hfld⟩ := DataW.trod_struct Tryd.underlying51 h2
      match cs', hlen with
      | [u0, u1], _ =>
        have h0 := hfld 0 _ rfl
        have h1' := hfld 1 _ rfl
        match xs, hlen' with
        | [y0, y1], _ =>
          obtain ⟨k0, e0, _, b0⟩ := DataW.trod_int Tryd.underlying3 h0
          obtain ⟨k1, e1, _, b1⟩ := DataW.trod_int Tryd.underlying3 h1'
          simp [Tryd.cellsEdInt] at e0 e1
          subst e0 e1
          have c0 := hc 0 (by simp)
          have c1 := hc 1 (by simp)
          rw [show ∀ y : Addr, y.add 1 = ⟨y.block, y.off + 1, none⟩ from fun y => by simp [Addr.add]] at c1
          refine ⟨⟨k0, k1⟩, ?_, c1⟩
          simpa [Addr.add] using c0
    have inh : Inhabited Rg := ⟨rg0⟩
    obtain ⟨F, hF⟩ := choose_lt (α := Rg) each
    refine ⟨some a, cap, (List.range vn).map F, by simp, by simp; omega, fun i f hf => ?_⟩
    have hi : i < vn := by
      rcases Nat.lt_or_ge i vn with h1 | h1
      · exact h1
      · rw [List.getElem?_eq_none (by simpa using h1)] at hf; cases hf
    obtain rfl : F i = f := by simpa [hi] using hf
    obtain ⟨c0, c1⟩ := hF i hi
    refine ⟨a, rfl, ?_, c0, c1⟩
    have := World.block_lt_of_cell? W _ c0
    rwa [g_add] at this
set_option maxRecDepth 100000 in
theorem open_edit {H : Type} {enc : TypeId × Value → H} {W : World} {base : Nat} {v : Value} {d : DataW H} {ps : List MemPlace} (hval : Value.okWide Tryd.prog W .any base 24 v)
    (h : DataW.Trod enc Tryd.prog W 0 (fun _ => true) true 24 v d ps) :
    ∃ (e : Ed) (a : Option Addr) (c : Nat), v = .agg #[.int .i64 e.kind, .string e.box, .string e.dst, .slice a e.set.length c, .int .i64 e.how, .int .i64 e.bits, .int .i64 e.since, .string e.text] ∧ ArgEd W.heap.size W a e := by
  obtain ⟨cs, rfl, hsz⟩ := okWide_struct Tryd.underlying24 hval
  obtain ⟨fuel, hf⟩ := h
  obtain ⟨xs, n, _, _, hl, hlen, hfld⟩ := DataW.trod_struct Tryd.underlying24 hf
  have h0 := hfld 0 _ rfl
  have h1 := hfld 1 _ rfl
  have h2 := hfld 2 _ rfl
  have h3 := hfld 3 _ rfl
  have h4 := hfld 4 _ rfl
  have h5 := hfld 5 _ rfl
  have h6 := hfld 6 _ rfl
  have h7 := hfld 7 _ rfl
  rw [Tryd.cellsLEdit] at hsz
  obtain ⟨l0⟩ := cs
  match l0, hsz, xs, hlen with
  | [u0, u1, u2, u3, u4, u5, u6, u7], _, [y0, y1, y2, y3, y4, y5, y6, y7], _ =>
    obtain ⟨k0, e0, _, z0⟩ := DataW.trod_int Tryd.underlying3 h0
    obtain ⟨k1, e1, _, z1⟩ := DataW.trod_string Tryd.underlying9 h1
    obtain ⟨k2, e2, _, z2⟩ := DataW.trod_string Tryd.underlying9 h2
    obtain ⟨a, c, l, e3, m3, A3⟩ := open_rg h3
    obtain ⟨k4, e4, _, z4⟩ := DataW.trod_int Tryd.underlying3 h4
    obtain ⟨k5, e5, _, z5⟩ := DataW.trod_int Tryd.underlying3 h5
    obtain ⟨k6, e6, _, z6⟩ := DataW.trod_int Tryd.underlying3 h6
    obtain ⟨k7, e7, _, z7⟩ := DataW.trod_string Tryd.underlying9 h7
    simp [Value.cells, Tryd.cellsEdInt, Tryd.cellsEdStr, Tryd.cellsLRangeS] at e0 e1 e2 e3 e4 e5 e6 e7
    subst e0 e1 e2 e3 e4 e5 e6 e7
    exact ⟨⟨k0, k1, k2, l, k4, k5, k6, k7⟩, a, c, rfl, ⟨z1, z2, z7, m3, A3⟩⟩
end Go.Proofs.YtecognggnbopaacDoor
