/- Several texts in one. -/
import Derived.Test.YtlngjflhbkannaaGreatBmA
import Derived.Test.YtlngjflhbkannaaGreatShelf
import Derived.Test.YtlngjflhbkannaaGreatTv
import Derived.Test.YtlngjflhbkannaaGreatBoxA
import Derived.Test.YtlngjflhbkannaaGreatRowsA
import Derived.Test.YtlngjflhbkannaaGreatBoxP
import Derived.Test.YtlngjflhbkannaaGreatBoxCopyS
import Derived.Test.YtlngjflhbkannaaGreatIntRow
import Derived.Test.YtlngjflhbkannaaGreatRegA
namespace Go.Proofs.YtlngjflhbkannaaGreat
open Go.RowKit
set_option linter.unusedVariables false
theorem Clone_any (s : ByteArray) (w : World) (h : s.size ≤ 281474976710656) :
  Calls Tryz.prog 91 #[.string s] w fun e w' => e = .returned (.string s) ∧ Below w.heap.size w w' := by
 go_enter Tryz.func91, Tryz.ntmps91
 go_wp2_with (go_at_call 134; refine (Tryz.stringslite_Clone s _ h).mono ?_; rintro e w1 ⟨rfl, hb⟩)
 go_ret
 exact ⟨rfl, hb⟩
end Go.Proofs.YtlngjflhbkannaaGreat

namespace Go.Proofs.YtlngjflhbkannaaGreat
open Go.RowKit
open Plain
set_option linter.unusedVariables false
set_option linter.unusedSimpArgs false

theorem fill4 {W : World} {r : Nat} {t : TypeId} {v0 v1 v2 v3 : Value} (h : HasObj W r t [v0, v1, v2, v3]) (u0 u1 u2 u3 : Value) :
  Filled W r t [u0, u1, u2, u3] ((((W.setCell ⟨r, 0, none⟩ u0).setCell ⟨r, 1, none⟩ u1).setCell ⟨r, 2, none⟩ u2).setCell ⟨r, 3, none⟩ u3) := by
 have h1 := h.set 0 u0; have h2 := h1.set 1 u1; have h3 := h2.set 2 u2; have h4 := h3.set 3 u3
 refine ⟨h4, fun hne hb => ?_, fun hte hr => ?_, fun hn hb => ?_, by simp⟩
 ·exact ((((hb.other (j := 0) hne u0).other (j := 1) hne u1).other (j := 2) hne u2).other (j := 3) hne u3)
 ·exact (h3.row (j := 3) hte (h2.row (j := 2) hte (h1.row (j := 1) hte (h.row (j := 0) hte hr u0) u1) u2) u3)
 ·exact ((((hb.setCell (p := ⟨r, 0, none⟩) hn u0).setCell (p := ⟨r, 1, none⟩) hn u1).setCell (p := ⟨r, 2, none⟩) hn u2).setCell (p := ⟨r, 3, none⟩) hn u3)
theorem fill8 {W : World} {r : Nat} {t : TypeId} {v0 v1 v2 v3 v4 v5 v6 v7 : Value} (h : HasObj W r t [v0, v1, v2, v3, v4, v5, v6, v7]) (u0 u1 u2 u3 u4 u5 u6 u7 : Value) :
  Filled W r t [u0, u1, u2, u3, u4, u5, u6, u7] ((((((((W.setCell ⟨r, 0, none⟩ u0).setCell ⟨r, 1, none⟩ u1).setCell ⟨r, 2, none⟩ u2).setCell ⟨r, 3, none⟩ u3).setCell ⟨r, 4, none⟩ u4).setCell ⟨r, 5, none⟩ u5).setCell ⟨r, 6, none⟩ u6).setCell ⟨r, 7, none⟩ u7) := by
 have h1 := h.set 0 u0; have h2 := h1.set 1 u1; have h3 := h2.set 2 u2; have h4 := h3.set 3 u3; have h5 := h4.set 4 u4; have h6 := h5.set 5 u5; have h7 := h6.set 6 u6; have h8 := h7.set 7 u7
 refine ⟨h8, fun hne hb => ?_, fun hte hr => ?_, fun hn hb => ?_, by simp⟩
 ·exact ((((((((hb.other (j := 0) hne u0).other (j := 1) hne u1).other (j := 2) hne u2).other (j := 3) hne u3).other (j := 4) hne u4).other (j := 5) hne u5).other (j := 6) hne u6).other (j := 7) hne u7)
 ·exact (h7.row (j := 7) hte (h6.row (j := 6) hte (h5.row (j := 5) hte (h4.row (j := 4) hte (h3.row (j := 3) hte (h2.row (j := 2) hte (h1.row (j := 1) hte (h.row (j := 0) hte hr u0) u1) u2) u3) u4) u5) u6) u7)
 ·exact ((((((((hb.setCell (p := ⟨r, 0, none⟩) hn u0).setCell (p := ⟨r, 1, none⟩) hn u1).setCell (p := ⟨r, 2, none⟩) hn u2).setCell (p := ⟨r, 3, none⟩) hn u3).setCell (p := ⟨r, 4, none⟩) hn u4).setCell (p := ⟨r, 5, none⟩) hn u5).setCell (p := ⟨r, 6, none⟩) hn u6).setCell (p := ⟨r, 7, none⟩) hn u7)

namespace Plain
def mailsTo (b : Bx) (k : Nat) : List Ml := b.mails.take k
theorem mailsTo_next {b : Bx} {k : Nat} {f : Ml} (h : b.mails[k]? = some f) : mailsTo b (k + 1) = mailsTo b k ++ [f] := by unfold mailsTo; rw [List.take_add_one, h]; rfl
theorem mailsTo_len (b : Bx) (k : Nat) : (mailsTo b k).length ≤ b.mails.length := by unfold mailsTo; simp; omega
theorem mailsTo_all (b : Bx) : mailsTo b b.mails.length = b.mails := by unfold mailsTo; simp
end Plain
abbrev mailV (f : Ml) : Value := .agg #[.int .i64 f.uid, .int .i64 f.flags, .int .i64 f.mod, .string f.text]
abbrev openV (l : Value) (b : Bx) (m t : Value) : Value := .agg #[l, .string b.name, .int .i64 b.valid, .int .i64 b.next, .int .i64 b.mod, m, t, .int .i64 b.hor]
set_option maxHeartbeats 4000000 in
set_option maxRecDepth 100000 in
theorem copiedMail_any (f : Ml) (w : World) (hs : f.text.size ≤ 281474976710656) :
  Calls Tryz.prog 66 #[mailV f] w fun e w' => e = .returned (mailV f) ∧ Below w.heap.size w w' := by
 have BB := hide (Below.refl w.heap.size w)
 obtain ⟨w1, hP⟩ : ∃ X, X = w.alloc (.cells ([.int .i64 f.uid, .int .i64 f.flags, .int .i64 f.mod, .string f.text] : List Value).toArray 100) := ⟨_, rfl⟩
 have Px : HasObj w1 w.heap.size 100 [.int .i64 f.uid, .int .i64 f.flags, .int .i64 f.mod, .string f.text] := by rw [hP]; exact HasObj.new _ _ _
 have hbn : Below w.heap.size w w1 := by rw [hP]; exact (Below.refl _ _).alloc (Nat.le_refl _) _
 have loP : w.heap.size ≤ w.heap.size := (uh BB).size
 have EP := hP.symm; clear hP; have sz1 := hide (hbn.size); replace BB := hide (below_y (uh BB) hbn); clear hbn; have P := hide Px; clear Px
 obtain ⟨w2, hR⟩ : ∃ X, X = w1.alloc (.cells ([.int .i64 0, .int .i64 0, .int .i64 0, .string ⟨#[]⟩] : List Value).toArray 100) := ⟨_, rfl⟩
 have Rx : HasObj w2 w1.heap.size 100 [.int .i64 0, .int .i64 0, .int .i64 0, .string ⟨#[]⟩] := by rw [hR]; exact HasObj.new _ _ _
 have hbn : Below w1.heap.size w1 w2 := by rw [hR]; exact (Below.refl _ _).alloc (Nat.le_refl _) _
 have nePR : w.heap.size ≠ w1.heap.size := Nat.ne_of_lt (uh P).lt
 have loR : w.heap.size ≤ w1.heap.size := (uh BB).size
 have ER := hR.symm; clear hR; replace P := hide ((uh P).ups hbn); have sz2 := hide (hbn.size); replace BB := hide (below_y (uh BB) hbn); clear hbn; have R := hide Rx; clear Rx; have Pc0_1 := (uh P).cell 0 rfl; have Pc1_1 := (uh P).cell 1 rfl; have Pc2_1 := (uh P).cell 2 rfl; have Pc3_1 := (uh P).cell 3 rfl
 go_enter Tryz.func66, Tryz.ntmps66
 go_wp2_with fail; clear Pc0_1 Pc1_1 Pc2_1 Pc3_1 EP ER
 refine (Clone_any f.text _ hs).mono ?_
 rintro e w3 ⟨rfl, hb⟩
 replace P := hide ((uh P).ups hb); replace R := hide ((uh R).ups hb); have sz3 := hide (hb.size); replace BB := hide (below_y (uh BB) hb); clear hb; have Pfz3_2 := (uh P).frozen 3; have Pcz3_2 := (uh P).cell 3 rfl
 obtain ⟨w4, hst⟩ : ∃ X, X = w3.setCell ⟨w.heap.size, 3, none⟩ (.string f.text) := ⟨_, rfl⟩
 have P_ := hide ((uh P).set 3 (.string f.text))
 rw [← hst] at P_
 have R_ := hide ((uh R).other (j := 3) nePR.symm (.string f.text))
 rw [← hst] at R_
 have BB_ := hide ((uh BB).setCell (p := ⟨w.heap.size, 3, none⟩) (show w.heap.size ≤ w.heap.size from loP) (.string f.text))
 rw [← hst] at BB_
 have sz4 : Hid (w3.heap.size ≤ w4.heap.size) := by show _ ≤ _; rw [hst]; simp
 replace P := P_; clear P_; replace R := R_; clear R_; replace BB := BB_; clear BB_; have Est4 := hst.symm; clear hst; have Pc0_3 := (uh P).cell 0 rfl; have Pc1_3 := (uh P).cell 1 rfl; have Pc2_3 := (uh P).cell 2 rfl; have Pc3_3 := (uh P).cell 3 rfl; have Rf0 := (uh R).frozen 0; have Rf1 := (uh R).frozen 1; have Rf2 := (uh R).frozen 2; have Rf3 := (uh R).frozen 3; have Re0 := (uh R).cell 0 rfl; have Re1 := (uh R).cell 1 rfl; have Re2 := (uh R).cell 2 rfl; have Re3 := (uh R).cell 3 rfl; have F := hide (fill4 (uh R) (.int .i64 f.uid) (.int .i64 f.flags) (.int .i64 f.mod) (.string f.text))
 go_wp2
 obtain ⟨U, hU⟩ : ∃ U, U = ((((w4.setCell ⟨w1.heap.size, 0, none⟩ (.int .i64 f.uid)).setCell ⟨w1.heap.size, 1, none⟩ (.int .i64 f.flags)).setCell ⟨w1.heap.size, 2, none⟩ (.int .i64 f.mod)).setCell ⟨w1.heap.size, 3, none⟩ (.string f.text)) := ⟨_, rfl⟩
 have F := uh F
 rw [← hU] at F ⊢
 have v0 := F.obj.cell 0 rfl; have v1 := F.obj.cell 1 rfl; have v2 := F.obj.cell 2 rfl; have v3 := F.obj.cell 3 rfl
 refine bodyPost_ret (by simp [results, Tryz.results66, go_sem, v0, v1, v2, v3]; try rfl) rfl ?_
 exact ⟨rfl, F.below loR (uh BB)⟩
set_option maxHeartbeats 4000000 in
set_option maxRecDepth 100000 in
theorem box_any (b : Bx) (al am at1 : Option Addr) (nl cl nm cm nt ct : Nat) (w : World) :
  Calls Tryz.prog 67 #[openV (.slice al nl cl) b (.slice am nm cm) (.slice at1 nt ct)] w fun e w' => e = .returned (boxV b (.slice al nl cl) (.slice at1 nt ct)) ∧ Below w.heap.size w w' := by
 have BB := hide (Below.refl w.heap.size w)
 obtain ⟨w1, hP⟩ : ∃ X, X = w.alloc (.cells ([.slice al nl cl, .string b.name, .int .i64 b.valid, .int .i64 b.next, .int .i64 b.mod, .slice am nm cm, .slice at1 nt ct, .int .i64 b.hor] : List Value).toArray 97) := ⟨_, rfl⟩
 have Px : HasObj w1 w.heap.size 97 [.slice al nl cl, .string b.name, .int .i64 b.valid, .int .i64 b.next, .int .i64 b.mod, .slice am nm cm, .slice at1 nt ct, .int .i64 b.hor] := by rw [hP]; exact HasObj.new _ _ _
 have hbn : Below w.heap.size w w1 := by rw [hP]; exact (Below.refl _ _).alloc (Nat.le_refl _) _
 have loP : w.heap.size ≤ w.heap.size := (uh BB).size
 have EP := hP.symm; clear hP; have sz1 := hide (hbn.size); replace BB := hide (below_y (uh BB) hbn); clear hbn; have P := hide Px; clear Px
 obtain ⟨w2, hR⟩ : ∃ X, X = w1.alloc (.cells ([.string ⟨#[]⟩, .int .i64 0, .int .i64 0, .int .i64 0, .slice none 0 0, .slice none 0 0, .int .i64 0] : List Value).toArray 50) := ⟨_, rfl⟩
 have Rx : HasObj w2 w1.heap.size 50 [.string ⟨#[]⟩, .int .i64 0, .int .i64 0, .int .i64 0, .slice none 0 0, .slice none 0 0, .int .i64 0] := by rw [hR]; exact HasObj.new _ _ _
 have hbn : Below w1.heap.size w1 w2 := by rw [hR]; exact (Below.refl _ _).alloc (Nat.le_refl _) _
 have nePR : w.heap.size ≠ w1.heap.size := Nat.ne_of_lt (uh P).lt
 have loR : w.heap.size ≤ w1.heap.size := (uh BB).size
 have ER := hR.symm; clear hR; replace P := hide ((uh P).ups hbn); have sz2 := hide (hbn.size); replace BB := hide (below_y (uh BB) hbn); clear hbn; have R := hide Rx; clear Rx; have Pc0_1 := (uh P).cell 0 rfl; have Pc1_1 := (uh P).cell 1 rfl; have Pc2_1 := (uh P).cell 2 rfl; have Pc3_1 := (uh P).cell 3 rfl; have Pc4_1 := (uh P).cell 4 rfl; have Pc5_1 := (uh P).cell 5 rfl; have Pc6_1 := (uh P).cell 6 rfl; have Pc7_1 := (uh P).cell 7 rfl
 obtain ⟨w3, hQ⟩ : ∃ X, X = w2.alloc (.cells ([.string b.name, .int .i64 b.valid, .int .i64 b.next, .int .i64 b.mod, .slice am nm cm, .slice at1 nt ct, .int .i64 b.hor] : List Value).toArray 50) := ⟨_, rfl⟩
 have Qx : HasObj w3 w2.heap.size 50 [.string b.name, .int .i64 b.valid, .int .i64 b.next, .int .i64 b.mod, .slice am nm cm, .slice at1 nt ct, .int .i64 b.hor] := by rw [hQ]; exact HasObj.new _ _ _
 have hbn : Below w2.heap.size w2 w3 := by rw [hQ]; exact (Below.refl _ _).alloc (Nat.le_refl _) _
 have nePQ : w.heap.size ≠ w2.heap.size := Nat.ne_of_lt (uh P).lt
 have neRQ : w1.heap.size ≠ w2.heap.size := Nat.ne_of_lt (uh R).lt
 have loQ : w.heap.size ≤ w2.heap.size := (uh BB).size
 have EQ := hQ.symm; clear hQ; replace P := hide ((uh P).ups hbn); replace R := hide ((uh R).ups hbn); have sz3 := hide (hbn.size); replace BB := hide (below_y (uh BB) hbn); clear hbn; have Q := hide Qx; clear Qx; have Pc0_2 := (uh P).cell 0 rfl; have Pc1_2 := (uh P).cell 1 rfl; have Pc2_2 := (uh P).cell 2 rfl; have Pc3_2 := (uh P).cell 3 rfl; have Pc4_2 := (uh P).cell 4 rfl; have Pc5_2 := (uh P).cell 5 rfl; have Pc6_2 := (uh P).cell 6 rfl; have Pc7_2 := (uh P).cell 7 rfl; have Qfz4_3 := (uh Q).frozen 4; have Qcz4_3 := (uh Q).cell 4 rfl
 obtain ⟨w4, hst⟩ : ∃ X, X = w3.setCell ⟨w2.heap.size, 4, none⟩ (.slice al nl cl) := ⟨_, rfl⟩
 have P_ := hide ((uh P).other (j := 4) nePQ (.slice al nl cl))
 rw [← hst] at P_
 have R_ := hide ((uh R).other (j := 4) neRQ (.slice al nl cl))
 rw [← hst] at R_
 have Q_ := hide ((uh Q).set 4 (.slice al nl cl))
 rw [← hst] at Q_
 have BB_ := hide ((uh BB).setCell (p := ⟨w2.heap.size, 4, none⟩) (show w.heap.size ≤ w2.heap.size from loQ) (.slice al nl cl))
 rw [← hst] at BB_
 have sz4 : Hid (w3.heap.size ≤ w4.heap.size) := by show _ ≤ _; rw [hst]; simp
 replace P := P_; clear P_; replace R := R_; clear R_; replace Q := Q_; clear Q_; replace BB := BB_; clear BB_; have Est4 := hst.symm; clear hst; have Qc0_4 := (uh Q).cell 0 rfl; have Qc1_4 := (uh Q).cell 1 rfl; have Qc2_4 := (uh Q).cell 2 rfl; have Qc3_4 := (uh Q).cell 3 rfl; have Qc4_4 := (uh Q).cell 4 rfl; have Qc5_4 := (uh Q).cell 5 rfl; have Qc6_4 := (uh Q).cell 6 rfl
 go_enter Tryz.func67, Tryz.ntmps67
 have Rf0 := (uh R).frozen 0; have Rf1 := (uh R).frozen 1; have Rf2 := (uh R).frozen 2; have Rf3 := (uh R).frozen 3; have Rf4 := (uh R).frozen 4; have Rf5 := (uh R).frozen 5; have Rf6 := (uh R).frozen 6; have Re0 := (uh R).cell 0 rfl; have Re1 := (uh R).cell 1 rfl; have Re2 := (uh R).cell 2 rfl; have Re3 := (uh R).cell 3 rfl; have Re4 := (uh R).cell 4 rfl; have Re5 := (uh R).cell 5 rfl; have Re6 := (uh R).cell 6 rfl; have F := hide (fill7 (uh R) (.string b.name) (.int .i64 b.valid) (.int .i64 b.next) (.int .i64 b.mod) (.slice al nl cl) (.slice at1 nt ct) (.int .i64 b.hor))
 go_wp2
 obtain ⟨U, hU⟩ : ∃ U, U = (((((((w4.setCell ⟨w1.heap.size, 0, none⟩ (.string b.name)).setCell ⟨w1.heap.size, 1, none⟩ (.int .i64 b.valid)).setCell ⟨w1.heap.size, 2, none⟩ (.int .i64 b.next)).setCell ⟨w1.heap.size, 3, none⟩ (.int .i64 b.mod)).setCell ⟨w1.heap.size, 4, none⟩ (.slice al nl cl)).setCell ⟨w1.heap.size, 5, none⟩ (.slice at1 nt ct)).setCell ⟨w1.heap.size, 6, none⟩ (.int .i64 b.hor)) := ⟨_, rfl⟩
 have F := uh F
 rw [← hU] at F ⊢
 have v0 := F.obj.cell 0 rfl; have v1 := F.obj.cell 1 rfl; have v2 := F.obj.cell 2 rfl; have v3 := F.obj.cell 3 rfl; have v4 := F.obj.cell 4 rfl; have v5 := F.obj.cell 5 rfl; have v6 := F.obj.cell 6 rfl
 refine bodyPost_ret (by simp [results, Tryz.results67, go_sem, v0, v1, v2, v3, v4, v5, v6]; try rfl) rfl ?_
 exact ⟨rfl, F.below loR (uh BB)⟩
set_option maxHeartbeats 8000000 in
set_option maxRecDepth 100000 in
theorem opened_any (b : Bx) (m t : Value) (B : Nat) (w : World) (hf : FitBx b) (h : OwnBx B w m t b) :
  Calls Tryz.prog 65 #[boxV b m t] w fun e w' => ∃ l t', e = .returned (openV l { b with mails := [] } (.slice none 0 0) t') ∧ OwnMl w.heap.size w' l b.mails ∧ OwnTb w.heap.size w' t' b.tombs ∧ Below w.heap.size w w' := by
 obtain ⟨iM, hM, hM0, hM1, hM2⟩ := info_parts Tryz.infoMail
 obtain ⟨iT, hT, hT0, hT1, hT2⟩ := info_parts Tryz.infoTomb
 have hl1 := hf.mails; have hl2 := hf.tombs; have hnm := hf.name; have TX := hide hf.texts
 obtain ⟨am, cm, rfl⟩ := g_shape h.1
 obtain ⟨at1, ct1, rfl⟩ := g_shape h.2
 have HO := hide h
 have HM := hide (fun (W : World) hb k f hx => ml_read (W := W) h.1 hb (k := k) (f := f) hx)
 clear h hf; have BB := hide (Below.refl w.heap.size w)
 obtain ⟨w1, hP⟩ : ∃ X, X = w.alloc (.cells ([.string b.name, .int .i64 b.valid, .int .i64 b.next, .int .i64 b.mod, .slice am b.mails.length cm, .slice at1 b.tombs.length ct1, .int .i64 b.hor] : List Value).toArray 50) := ⟨_, rfl⟩
 have Px : HasObj w1 w.heap.size 50 [.string b.name, .int .i64 b.valid, .int .i64 b.next, .int .i64 b.mod, .slice am b.mails.length cm, .slice at1 b.tombs.length ct1, .int .i64 b.hor] := by rw [hP]; exact HasObj.new _ _ _
 have hbn : Below w.heap.size w w1 := by rw [hP]; exact (Below.refl _ _).alloc (Nat.le_refl _) _
 have loP : w.heap.size ≤ w.heap.size := (uh BB).size
 have EP := hP.symm; clear hP; have sz1 := hide (hbn.size); replace BB := hide (below_y (uh BB) hbn); clear hbn; have P := hide Px; clear Px
 obtain ⟨w2, hR⟩ : ∃ X, X = w1.alloc (.cells ([.slice none 0 0, .string ⟨#[]⟩, .int .i64 0, .int .i64 0, .int .i64 0, .slice none 0 0, .slice none 0 0, .int .i64 0] : List Value).toArray 97) := ⟨_, rfl⟩
 have Rx : HasObj w2 w1.heap.size 97 [.slice none 0 0, .string ⟨#[]⟩, .int .i64 0, .int .i64 0, .int .i64 0, .slice none 0 0, .slice none 0 0, .int .i64 0] := by rw [hR]; exact HasObj.new _ _ _
 have hbn : Below w1.heap.size w1 w2 := by rw [hR]; exact (Below.refl _ _).alloc (Nat.le_refl _) _
 have nePR : w.heap.size ≠ w1.heap.size := Nat.ne_of_lt (uh P).lt
 have loR : w.heap.size ≤ w1.heap.size := (uh BB).size
 have ER := hR.symm; clear hR; replace P := hide ((uh P).ups hbn); have sz2 := hide (hbn.size); replace BB := hide (below_y (uh BB) hbn); clear hbn; have R := hide Rx; clear Rx; have Pc0_1 := (uh P).cell 0 rfl; have Pc1_1 := (uh P).cell 1 rfl; have Pc2_1 := (uh P).cell 2 rfl; have Pc3_1 := (uh P).cell 3 rfl; have Pc4_1 := (uh P).cell 4 rfl; have Pc5_1 := (uh P).cell 5 rfl; have Pc6_1 := (uh P).cell 6 rfl
 obtain ⟨w3, hQ⟩ : ∃ X, X = w2.alloc (.cells ([.slice none 0 0, .string b.name, .int .i64 b.valid, .int .i64 b.next, .int .i64 b.mod, .slice am b.mails.length cm, .slice at1 b.tombs.length ct1, .int .i64 b.hor] : List Value).toArray 97) := ⟨_, rfl⟩
 have Qx : HasObj w3 w2.heap.size 97 [.slice none 0 0, .string b.name, .int .i64 b.valid, .int .i64 b.next, .int .i64 b.mod, .slice am b.mails.length cm, .slice at1 b.tombs.length ct1, .int .i64 b.hor] := by rw [hQ]; exact HasObj.new _ _ _
 have hbn : Below w2.heap.size w2 w3 := by rw [hQ]; exact (Below.refl _ _).alloc (Nat.le_refl _) _
 have nePQ : w.heap.size ≠ w2.heap.size := Nat.ne_of_lt (uh P).lt
 have neRQ : w1.heap.size ≠ w2.heap.size := Nat.ne_of_lt (uh R).lt
 have loQ : w.heap.size ≤ w2.heap.size := (uh BB).size
 have EQ := hQ.symm; clear hQ; replace P := hide ((uh P).ups hbn); replace R := hide ((uh R).ups hbn); have sz3 := hide (hbn.size); replace BB := hide (below_y (uh BB) hbn); clear hbn; have Q := hide Qx; clear Qx; have Pc0_2 := (uh P).cell 0 rfl; have Pc1_2 := (uh P).cell 1 rfl; have Pc2_2 := (uh P).cell 2 rfl; have Pc3_2 := (uh P).cell 3 rfl; have Pc4_2 := (uh P).cell 4 rfl; have Pc5_2 := (uh P).cell 5 rfl; have Pc6_2 := (uh P).cell 6 rfl
 go_enter Tryz.func65, Tryz.ntmps65
 go_wp2_with fail; clear Pc0_1 Pc1_1 Pc2_1 Pc3_1 Pc4_1 Pc5_1 Pc6_1 Pc0_2 Pc1_2 Pc2_2 Pc3_2 Pc4_2 Pc5_2 Pc6_2 EP ER EQ
 refine (Clone_any b.name _ (by omega)).mono ?_
 rintro e w4 ⟨rfl, hb⟩
 replace P := hide ((uh P).ups hb); replace R := hide ((uh R).ups hb); replace Q := hide ((uh Q).ups hb); have sz4 := hide (hb.size); replace BB := hide (below_y (uh BB) hb); clear hb; have Qfz1_3 := (uh Q).frozen 1; have Qcz1_3 := (uh Q).cell 1 rfl
 obtain ⟨w5, hst⟩ : ∃ X, X = w4.setCell ⟨w2.heap.size, 1, none⟩ (.string b.name) := ⟨_, rfl⟩
 have P_ := hide ((uh P).other (j := 1) nePQ (.string b.name))
 rw [← hst] at P_
 have R_ := hide ((uh R).other (j := 1) neRQ (.string b.name))
 rw [← hst] at R_
 have Q_ := hide ((uh Q).set 1 (.string b.name))
 rw [← hst] at Q_
 have BB_ := hide ((uh BB).setCell (p := ⟨w2.heap.size, 1, none⟩) (show w.heap.size ≤ w2.heap.size from loQ) (.string b.name))
 rw [← hst] at BB_
 have sz5 : Hid (w4.heap.size ≤ w5.heap.size) := by show _ ≤ _; rw [hst]; simp
 replace P := P_; clear P_; replace R := R_; clear R_; replace Q := Q_; clear Q_; replace BB := BB_; clear BB_; have Est5 := hst.symm; clear hst; have Qfz5_4 := (uh Q).frozen 5; have Qcz5_4 := (uh Q).cell 5 rfl
 obtain ⟨w6, hst⟩ : ∃ X, X = w5.setCell ⟨w2.heap.size, 5, none⟩ (.slice none 0 0) := ⟨_, rfl⟩
 have P_ := hide ((uh P).other (j := 5) nePQ (.slice none 0 0))
 rw [← hst] at P_
 have R_ := hide ((uh R).other (j := 5) neRQ (.slice none 0 0))
 rw [← hst] at R_
 have Q_ := hide ((uh Q).set 5 (.slice none 0 0))
 rw [← hst] at Q_
 have BB_ := hide ((uh BB).setCell (p := ⟨w2.heap.size, 5, none⟩) (show w.heap.size ≤ w2.heap.size from loQ) (.slice none 0 0))
 rw [← hst] at BB_
 have sz6 : Hid (w5.heap.size ≤ w6.heap.size) := by show _ ≤ _; rw [hst]; simp
 replace P := P_; clear P_; replace R := R_; clear R_; replace Q := Q_; clear Q_; replace BB := BB_; clear BB_; have Est6 := hst.symm; clear hst; have Pc0_5 := (uh P).cell 0 rfl; have Pc1_5 := (uh P).cell 1 rfl; have Pc2_5 := (uh P).cell 2 rfl; have Pc3_5 := (uh P).cell 3 rfl; have Pc4_5 := (uh P).cell 4 rfl; have Pc5_5 := (uh P).cell 5 rfl; have Pc6_5 := (uh P).cell 6 rfl; have oT := ((uh HO).up (uh BB)).2; have oN := World.ownsRow_nil w6 w.heap.size 117 2
 go_wp2_with (at_builtin; refine wpList_append_rows rfl _ _ 48 rfl w.heap.size B 117 iT _ 2 16 Tryz.underlying48 hT hT0 hT1 hT2 rfl (by decide) _ _ _ rfl oN _ _ _ rfl oT (tbC_one _) ?c1 ?c2 ?c3 ?_)
 clear Qfz1_3 Qcz1_3 Qfz5_4 Qcz5_4 Pc0_5 Pc1_5 Pc2_5 Pc3_5 Pc4_5 Pc5_5 Pc6_5 Est5 Est6
 case c1 => unfold maxLen; omega
 case c2 => omega
 case c3 => exact (uh BB).size
 clear oN oT
 intro v' w7 o1 hg1
 have hb : Below w6.heap.size w6 w7 := g_below (by simpa [Value.ownBlock] using hg1)
 clear hg1; replace P := hide ((uh P).ups hb); replace R := hide ((uh R).ups hb); replace Q := hide ((uh Q).ups hb); have sz7 := hide (hb.size); replace BB := hide (below_y (uh BB) hb); clear hb
 obtain ⟨a3, c3, rfl⟩ := g_shape o1
 have OT : Hid (OwnTb w.heap.size w7 (.slice a3 b.tombs.length c3) (b.tombs)) := o1
 clear o1; have Qfz6_6 := (uh Q).frozen 6; have Qcz6_6 := (uh Q).cell 6 rfl
 obtain ⟨w8, hst⟩ : ∃ X, X = w7.setCell ⟨w2.heap.size, 6, none⟩ (.slice a3 b.tombs.length c3) := ⟨_, rfl⟩
 have OT_ : Hid (OwnTb w.heap.size w8 (.slice a3 b.tombs.length c3) (b.tombs)) := by show OwnTb _ _ _ _; rw [hst]; exact (uh Q).row (j := 6) (by decide) (uh OT) _
 have P_ := hide ((uh P).other (j := 6) nePQ (.slice a3 b.tombs.length c3))
 rw [← hst] at P_
 have R_ := hide ((uh R).other (j := 6) neRQ (.slice a3 b.tombs.length c3))
 rw [← hst] at R_
 have Q_ := hide ((uh Q).set 6 (.slice a3 b.tombs.length c3))
 rw [← hst] at Q_
 have BB_ := hide ((uh BB).setCell (p := ⟨w2.heap.size, 6, none⟩) (show w.heap.size ≤ w2.heap.size from loQ) (.slice a3 b.tombs.length c3))
 rw [← hst] at BB_
 have sz8 : Hid (w7.heap.size ≤ w8.heap.size) := by show _ ≤ _; rw [hst]; simp
 replace OT := OT_; clear OT_; replace P := P_; clear P_; replace R := R_; clear R_; replace Q := Q_; clear Q_; replace BB := BB_; clear BB_; have Est8 := hst.symm; clear hst; have Pc0_7 := (uh P).cell 0 rfl; have Pc1_7 := (uh P).cell 1 rfl; have Pc2_7 := (uh P).cell 2 rfl; have Pc3_7 := (uh P).cell 3 rfl; have Pc4_7 := (uh P).cell 4 rfl; have Pc5_7 := (uh P).cell 5 rfl; have Pc6_7 := (uh P).cell 6 rfl
 go_wp2
 clear Qfz6_6 Qcz6_6 Pc0_7 Pc1_7 Pc2_7 Pc3_7 Pc4_7 Pc5_7 Pc6_7 Est8
 go_loopw [23] (fun i wr => ∃ (k : Nat) (v : Value), k ≤ b.mails.length ∧ i = .int .i64 k ∧ HasObj wr w.heap.size 50 [.string b.name, .int .i64 b.valid, .int .i64 b.next, .int .i64 b.mod, .slice am b.mails.length cm, .slice at1 b.tombs.length ct1, .int .i64 b.hor] ∧ HasObj wr w1.heap.size 97 [.slice none 0 0, .string ⟨#[]⟩, .int .i64 0, .int .i64 0, .int .i64 0, .slice none 0 0, .slice none 0 0, .int .i64 0] ∧ HasObj wr w2.heap.size 97 [v, .string b.name, .int .i64 b.valid, .int .i64 b.next, .int .i64 b.mod, .slice none 0 0, .slice a3 b.tombs.length c3, .int .i64 b.hor] ∧ OwnTb w.heap.size wr (.slice a3 b.tombs.length c3) b.tombs ∧ OwnMl w.heap.size wr v (mailsTo b k) ∧ Below w.heap.size w wr) (fun i _ => b.mails.length - (intOf i).toNat)
 case atStart => exact ⟨0, _, Nat.zero_le _, rfl, uh P, uh R, uh Q, uh OT, World.ownsRow_nil _ _ _ _, uh BB⟩
 clear P R Q OT BB
 case round =>
  obtain ⟨k, v, hk, rfl, hP, hR, hQ, hOT, hown, hbel⟩ := hrel
  obtain ⟨wo, hwo⟩ : ∃ wo, wo = wr := ⟨_, rfl⟩
  subst hwo
  obtain ⟨av, cv, rfl⟩ := g_shape hown
  by_cases hlt : k < b.mails.length
  ·have hgk : b.mails[k]? = some b.mails[k] := List.getElem?_eq_getElem hlt
   obtain ⟨g, c, e, hg, c0, c1, c2, c3'⟩ := uh HM wo hbel k _ hgk
   cases e
   have htx := uh TX _ (List.getElem_mem hlt); have NX := hide (mailsTo_next hgk); have LT := mailsTo_len b k
   have LM : Hid (∀ x, Value.ownBlock (.slice av (mailsTo b k).length cv) = some x → x < wo.heap.size) := fun x hx => (hown.lt x hx).2
   generalize b.mails[k] = f at *
   have i1 : (0 : Int) ≤ (k : Int) := by omega
   have P := hide hP; have R := hide hR; have Q := hide hQ; have OT := hide hOT; have OM := hide hown; have BB := hide hbel; clear hP hR hQ hOT hown hbel hgk
   obtain ⟨wr9, hM⟩ : ∃ X, X = wo.alloc (.cells ([.int .i64 f.uid, .int .i64 f.flags, .int .i64 f.mod, .string f.text] : List Value).toArray 100) := ⟨_, rfl⟩
   have Mx : HasObj wr9 wo.heap.size 100 [.int .i64 f.uid, .int .i64 f.flags, .int .i64 f.mod, .string f.text] := by rw [hM]; exact HasObj.new _ _ _
   have hbn : Below wo.heap.size wo wr9 := by rw [hM]; exact (Below.refl _ _).alloc (Nat.le_refl _) _
   have nePM : w.heap.size ≠ wo.heap.size := Nat.ne_of_lt (uh P).lt
   have neRM : w1.heap.size ≠ wo.heap.size := Nat.ne_of_lt (uh R).lt
   have neQM : w2.heap.size ≠ wo.heap.size := Nat.ne_of_lt (uh Q).lt
   have loM : w.heap.size ≤ wo.heap.size := (uh BB).size
   have EM := hM.symm; clear hM; replace P := hide ((uh P).ups hbn); replace R := hide ((uh R).ups hbn); replace Q := hide ((uh Q).ups hbn); replace OT := hide ((uh OT).up hbn); replace OM := hide ((uh OM).up hbn); have sz9 := hide (hbn.size); replace BB := hide (below_y (uh BB) hbn); clear hbn; have M := hide Mx; clear Mx; have Mc0_8 := (uh M).cell 0 rfl; have Mc1_8 := (uh M).cell 1 rfl; have Mc2_8 := (uh M).cell 2 rfl; have Mc3_8 := (uh M).cell 3 rfl; have Qc0_9 := (uh Q).cell 0 rfl; have Qc1_9 := (uh Q).cell 1 rfl; have Qc2_9 := (uh Q).cell 2 rfl; have Qc3_9 := (uh Q).cell 3 rfl; have Qc4_9 := (uh Q).cell 4 rfl; have Qc5_9 := (uh Q).cell 5 rfl; have Qc6_9 := (uh Q).cell 6 rfl; have Qc7_9 := (uh Q).cell 7 rfl
   go_wp2
   refine lateBegin (S := fun w' => w'.cell? ⟨w2.heap.size, 0, none⟩ = some (.slice av (mailsTo b k).length cv) ∧ w'.cell? ⟨wo.heap.size, 0, none⟩ = some (.int .i64 f.uid) ∧ w'.cell? ⟨wo.heap.size, 1, none⟩ = some (.int .i64 f.flags) ∧ w'.cell? ⟨wo.heap.size, 2, none⟩ = some (.int .i64 f.mod) ∧ w'.cell? ⟨wo.heap.size, 3, none⟩ = some (.string f.text)) 7 (by kernel_rfl) (⟨(uh Q).cell 0 rfl, (uh M).cell 0 rfl, (uh M).cell 1 rfl, (uh M).cell 2 rfl, (uh M).cell 3 rfl⟩) (fun hHeld => ?_)
   clear Mc0_8 Mc1_8 Mc2_8 Mc3_8 Qc0_9 Qc1_9 Qc2_9 Qc3_9 Qc4_9 Qc5_9 Qc6_9 Qc7_9 EM; replace P := hide ((uh P).drew); replace R := hide ((uh R).drew); replace Q := hide ((uh Q).drew); replace M := hide ((uh M).drew); replace OT := hide ((uh OT).drew); replace OM := hide ((uh OM).drew); replace BB := hide ((uh BB).drew)
   have sz10 : Hid (wr9.heap.size ≤ wr9.drew.heap.size) := Nat.le_refl _
   refine lt 0 27 ?_; refine lt 1 28 ?_; refine lt 2 29 ?_
   refine lateStep 3 (by kernel_rfl) rfl (by rfl) (fun K hK => ?_)
   go_simp
   refine (copiedMail_any f _ (by omega)).mono ?_
   rintro e wr10 ⟨rfl, hb⟩
   replace P := hide ((uh P).ups hb); replace R := hide ((uh R).ups hb); replace Q := hide ((uh Q).ups hb); replace M := hide ((uh M).ups hb); replace OT := hide ((uh OT).up hb); replace OM := hide ((uh OM).up hb); have sz11 := hide (hb.size); replace BB := hide (below_y (uh BB) hb); clear hb; go_wp2_with fail
   refine hK.out _ _ (⟨(uh Q).cell 0 rfl, (uh M).cell 0 rfl, (uh M).cell 1 rfl, (uh M).cell 2 rfl, (uh M).cell 3 rfl⟩) (fun hHeld2 => ?_)
   clear hK K hHeld; have hHeld := hHeld2; clear hHeld2
   try simp only [Act.put, p1, p2, p3]
   refine lateStep 4 (by kernel_rfl) rfl (by rfl) (fun K hK => ?_)
   go_simp
   have hA : Below wr10.heap.size wr10 (wr10.alloc (.cells ((mlC f) : List Value).toArray 100)) := (Below.refl _ _).alloc (Nat.le_refl _) _
   replace P := hide ((uh P).ups hA); replace R := hide ((uh R).ups hA); replace Q := hide ((uh Q).ups hA); replace M := hide ((uh M).ups hA); replace OT := hide ((uh OT).up hA); replace OM := hide ((uh OM).up hA); have sz12 := hide (hA.size); replace BB := hide (below_y (uh BB) hA); clear hA
   refine hK.out _ _ (⟨(uh Q).cell 0 rfl, (uh M).cell 0 rfl, (uh M).cell 1 rfl, (uh M).cell 2 rfl, (uh M).cell 3 rfl⟩) (fun hHeld2 => ?_)
   clear hK K hHeld; have hHeld := hHeld2; clear hHeld2
   try simp only [Act.put, p1, p2, p3]
   have oa := uh OM; have ldl := (uh BB).size
   refine lateStep 5 (by kernel_rfl) rfl (by rfl) (fun K hK => ?_)
   refine wp_append_lies _ (.tmp 28) (.tmp 31) 95 rfl (w.heap.size) 100 iM _ 4 40 Tryz.underlying95 hM hM0 hM1 hM2 rfl (by decide) (.slice av (mailsTo b k).length cv) _ _ rfl oa ⟨wr10.heap.size, 0, none⟩ 1 1 (mlC f) rfl rfl (newsC _ _) ?c2 (by decide) ?c3 ?c4 ?c5 (wr10.heap.size + 1) (by simp) ?_
   case c2 => intro u hu; simp [mlC, tbC, rgl] at hu; (try rcases hu with rfl | rfl | rfl | rfl) <;> (try rcases hu with rfl | rfl) <;> (try subst hu) <;> rfl
   case c3 => unfold maxLen; omega
   case c4 => omega
   case c5 => have q1_ := (uh BB).size; have sz1_ := uh sz1; have sz2_ := uh sz2; have sz3_ := uh sz3; have sz4_ := uh sz4; have sz5_ := uh sz5; have sz6_ := uh sz6; have sz7_ := uh sz7; have sz8_ := uh sz8; have sz9_ := uh sz9; have sz10_ := uh sz10; have sz11_ := uh sz11; have sz12_ := uh sz12; (try simp at q1_); (try simp); omega
   intro gr11 capr11 wr11 hown hgr hat hlt_
   have P_ := hide ((uh P).kept hgr (fun e => (uh P).not_row (by decide) oa e.symm))
   have R_ := hide ((uh R).kept hgr (fun e => (uh R).not_row (by decide) oa e.symm))
   have Q_ := hide ((uh Q).kept hgr (fun e => (uh Q).not_row (by decide) oa e.symm))
   have M_ := hide ((uh M).kept hgr (fun e => by have := uh LM _ e.symm; omega))
   have OT_ : Hid (OwnTb w.heap.size wr11 (.slice a3 b.tombs.length c3) (b.tombs)) := g_aside (uh OT) hgr (fun x hx => rows_apart oa (uh OT) (by decide) x hx)
   have OM_ : Hid (OwnMl (w.heap.size) wr11 (.slice (some ⟨gr11, 0, none⟩) ((mailsTo b k).length + 1) capr11) (mailsTo b (k + 1))) := by show OwnMl _ _ _ _; rw [uh NX]; exact OwnMl.snoc hown
   have BB_ : Hid (Below w.heap.size w wr11) := (uh BB).grown hgr (uh BB).size (fun b hb => by have q2_ := (World.ownsRow.lt oa b hb).1; have sz1_ := uh sz1; have sz2_ := uh sz2; have sz3_ := uh sz3; have sz4_ := uh sz4; have sz5_ := uh sz5; have sz6_ := uh sz6; have sz7_ := uh sz7; have sz8_ := uh sz8; have sz9_ := uh sz9; have sz10_ := uh sz10; have sz11_ := uh sz11; have sz12_ := uh sz12; omega)
   have sz13 : Hid ((wr10.alloc (.cells ((mlC f) : List Value).toArray 100)).heap.size ≤ wr11.heap.size) := hgr.size
   replace P := P_; clear P_; replace R := R_; clear R_; replace Q := Q_; clear Q_; replace M := M_; clear M_; replace OT := OT_; clear OT_; replace OM := OM_; clear OM_; replace BB := BB_; clear BB_; clear hown hgr hat hlt_ oa ldl
   refine hK.out _ _ (⟨(uh Q).cell 0 rfl, (uh M).cell 0 rfl, (uh M).cell 1 rfl, (uh M).cell 2 rfl, (uh M).cell 3 rfl⟩) (fun hHeld2 => ?_)
   clear hK K hHeld; have hHeld := hHeld2; clear hHeld2
   try simp only [Act.put, p1, p2, p3]
   refine lt 6 33 ?_
   have Qfz0_10 := (uh Q).frozen 0; have Qcz0_10 := (uh Q).cell 0 rfl
   obtain ⟨wr12, hst⟩ : ∃ X, X = wr11.setCell ⟨w2.heap.size, 0, none⟩ (.slice (some ⟨gr11, 0, none⟩) ((mailsTo b k).length + 1) capr11) := ⟨_, rfl⟩
   have OT_ : Hid (OwnTb w.heap.size wr12 (.slice a3 b.tombs.length c3) (b.tombs)) := by show OwnTb _ _ _ _; rw [hst]; exact (uh Q).row (j := 0) (by decide) (uh OT) _
   have OM_ : Hid (OwnMl w.heap.size wr12 (.slice (some ⟨gr11, 0, none⟩) ((mailsTo b k).length + 1) capr11) (mailsTo b (k + 1))) := by show OwnMl _ _ _ _; rw [hst]; exact (uh Q).row (j := 0) (by decide) (uh OM) _
   have P_ := hide ((uh P).other (j := 0) nePQ (.slice (some ⟨gr11, 0, none⟩) ((mailsTo b k).length + 1) capr11))
   rw [← hst] at P_
   have R_ := hide ((uh R).other (j := 0) neRQ (.slice (some ⟨gr11, 0, none⟩) ((mailsTo b k).length + 1) capr11))
   rw [← hst] at R_
   have Q_ := hide ((uh Q).set 0 (.slice (some ⟨gr11, 0, none⟩) ((mailsTo b k).length + 1) capr11))
   rw [← hst] at Q_
   have M_ := hide ((uh M).other (j := 0) neQM.symm (.slice (some ⟨gr11, 0, none⟩) ((mailsTo b k).length + 1) capr11))
   rw [← hst] at M_
   have BB_ := hide ((uh BB).setCell (p := ⟨w2.heap.size, 0, none⟩) (show w.heap.size ≤ w2.heap.size from loQ) (.slice (some ⟨gr11, 0, none⟩) ((mailsTo b k).length + 1) capr11))
   rw [← hst] at BB_
   have sz14 : Hid (wr11.heap.size ≤ wr12.heap.size) := by show _ ≤ _; rw [hst]; simp
   replace OT := OT_; clear OT_; replace OM := OM_; clear OM_; replace P := P_; clear P_; replace R := R_; clear R_; replace Q := Q_; clear Q_; replace M := M_; clear M_; replace BB := BB_; clear BB_; have Est14 := hst.symm; clear hst
   refine lateLast 7 (by decide) (by kernel_rfl) rfl (by rfl) (fun K hK => ?_)
   go_simp
   refine hK.out _ _ ?_
   clear hK K hHeld
   try simp only [Act.put, p1, p2, p3]
   try rw [Est14]
   clear Qfz0_10 Qcz0_10 Est14
   refine lateDone (by kernel_rfl) ?_ _
   go_wp2
   go_roundw
   case rel => exact ⟨k + 1, _, by omega, by go_num, uh P, uh R, uh Q, uh OT, uh OM, uh BB⟩
   case measure => simp [intOf]; omega
  ·obtain rfl : k = b.mails.length := by omega
   rw [mailsTo_all] at hown hQ
   have P := hide hP; have R := hide hR; have Q := hide hQ; have OT := hide hOT; have OM := hide hown; have BB := hide hbel; clear hP hR hQ hOT hown hbel; have Qc0_8 := (uh Q).cell 0 rfl; have Qc1_8 := (uh Q).cell 1 rfl; have Qc2_8 := (uh Q).cell 2 rfl; have Qc3_8 := (uh Q).cell 3 rfl; have Qc4_8 := (uh Q).cell 4 rfl; have Qc5_8 := (uh Q).cell 5 rfl; have Qc6_8 := (uh Q).cell 6 rfl; have Qc7_8 := (uh Q).cell 7 rfl; have Rf0 := (uh R).frozen 0; have Rf1 := (uh R).frozen 1; have Rf2 := (uh R).frozen 2; have Rf3 := (uh R).frozen 3; have Rf4 := (uh R).frozen 4; have Rf5 := (uh R).frozen 5; have Rf6 := (uh R).frozen 6; have Rf7 := (uh R).frozen 7; have Re0 := (uh R).cell 0 rfl; have Re1 := (uh R).cell 1 rfl; have Re2 := (uh R).cell 2 rfl; have Re3 := (uh R).cell 3 rfl; have Re4 := (uh R).cell 4 rfl; have Re5 := (uh R).cell 5 rfl; have Re6 := (uh R).cell 6 rfl; have Re7 := (uh R).cell 7 rfl; have F := hide (fill8 (uh R) (.slice av b.mails.length cv) (.string b.name) (.int .i64 b.valid) (.int .i64 b.next) (.int .i64 b.mod) (.slice none 0 0) (.slice a3 b.tombs.length c3) (.int .i64 b.hor))
   go_wp2
   obtain ⟨U, hU⟩ : ∃ U, U = ((((((((wo.setCell ⟨w1.heap.size, 0, none⟩ (.slice av b.mails.length cv)).setCell ⟨w1.heap.size, 1, none⟩ (.string b.name)).setCell ⟨w1.heap.size, 2, none⟩ (.int .i64 b.valid)).setCell ⟨w1.heap.size, 3, none⟩ (.int .i64 b.next)).setCell ⟨w1.heap.size, 4, none⟩ (.int .i64 b.mod)).setCell ⟨w1.heap.size, 5, none⟩ (.slice none 0 0)).setCell ⟨w1.heap.size, 6, none⟩ (.slice a3 b.tombs.length c3)).setCell ⟨w1.heap.size, 7, none⟩ (.int .i64 b.hor)) := ⟨_, rfl⟩
   have F := uh F
   rw [← hU] at F ⊢
   have v0 := F.obj.cell 0 rfl; have v1 := F.obj.cell 1 rfl; have v2 := F.obj.cell 2 rfl; have v3 := F.obj.cell 3 rfl; have v4 := F.obj.cell 4 rfl; have v5 := F.obj.cell 5 rfl; have v6 := F.obj.cell 6 rfl; have v7 := F.obj.cell 7 rfl
   refine bodyPost_ret (by simp [results, Tryz.results65, go_sem, v0, v1, v2, v3, v4, v5, v6, v7]; try rfl) rfl ?_
   exact ⟨_, _, rfl, F.row (by decide) (uh OM), F.row (by decide) (uh OT), F.below loR (uh BB)⟩
end Go.Proofs.YtlngjflhbkannaaGreat
