/- The specification's TakeLine. Made by gen_takes.py. -/
import Derived.Test.YtgdihceikhkddaaTv
import Derived.Test.YtgdihceikhkddaaTkPlain
import Derived.Test.YtgdihceikhkddaaBoxNameS
namespace Go.Proofs.Ytgdihceikhkddaa
open Go.RowKit Go.ChangeShapes Go.WideShapes Go.ChangeAt Go.Deep
open Plain
set_option linter.unusedVariables false
set_option linter.unusedSimpArgs false

namespace Plain
def sliceN : Value → Nat
 | .slice _ n _ => n
 | _ => 0
theorem take_full (l : List Sn) (m j : Nat) (h1 : j ≤ l.length + m) (h2 : m = 0 ∨ l.length + m ≤ j) : (l ++ List.replicate m sn0).take j = l.take j ++ List.replicate (j - l.length) sn0 := by
 rw [List.take_append, List.take_replicate]
 congr 2
 omega
theorem set_cut (l : List Sn) (k : Nat) (x : Sn) (h : k < l.length) : l.set k x = l.take k ++ ([x] ++ l.drop (k + 1)) := by
 rw [List.set_eq_take_append_cons_drop, if_pos h]
 rfl
theorem sn_more (l : List Sn) (m : Nat) : rowC snC (l ++ List.replicate (m + 1) sn0) = rowC snC (l ++ List.replicate m sn0) ++ snC sn0 := by
 rw [List.replicate_succ', ← List.append_assoc, rowC_append]
 simp [rowC]
end Plain
theorem newsS {w : World} (t : TypeId) (l : List Value) : ∀ j u, l[j]? = some u → (w.alloc (.cells l.toArray t)).cell? ((⟨w.heap.size, 0, none⟩ : Addr).add j) = some u := fun j u hj => by
 rw [Addr.add_lit, Nat.zero_add]
 exact (HasObj.new w t l).cell j hj
theorem sn_cap {B z n c : Nat} {e : TypeId} {w : World} {a : Option Addr} {xs : List Value} (h : w.ownsRow B e z (.slice a n c) n xs) : n ≤ c := by
 rcases h.2 with ⟨h1, h0⟩ | ⟨g, c', cur, h1, _, _, hc, _⟩
 ·omega
 ·cases h1; exact hc
theorem sn_prefix {B L c : Nat} {w : World} {a : Option Addr} {l : List Sn} (h : w.ownsRow B 34 3 (.slice a L c) L (rowC snC l)) (hL : l.length = L) (k : Nat) (hk : k ≤ L) : OwnSn B w (.slice a k c) (l.take k) := by
 have hl : (l.take k).length = k := by simp; omega
 show World.ownsRow _ _ _ _ _ _ _
 rw [hl]
 refine ⟨by rw [rowC_len snC_len, hl], ?_⟩
 rcases h.2 with ⟨h1, h0⟩ | ⟨g, c', cur, h1, hb, hh, hc, hm, hs, ht⟩
 ·cases h1
  obtain rfl : k = 0 := by omega
  exact .inl ⟨rfl, rfl⟩
 ·cases h1
  refine .inr ⟨g, c, cur, rfl, hb, hh, by omega, hm, hs, ?_⟩
  have e : rowC snC l = rowC snC (l.take k) ++ rowC snC (l.drop k) := by rw [← rowC_append, List.take_append_drop]
  have e2 : cur.toList.take (k * 3) = (cur.toList.take (L * 3)).take (k * 3) := by rw [List.take_take, Nat.min_eq_left (by omega)]
  rw [e2, ht, e, List.take_left' (by rw [rowC_len snC_len, hl])]
set_option maxHeartbeats 4000000 in
set_option maxRecDepth 100000 in
theorem spec_TakeLine_else (l : List Sn) (v : Value) (k n u f m : Int) (b : Bool) (sa : Option Addr) (ns cs B : Nat) (w : World) (hl : l.length ≤ 1048576) (h : OwnSn B w v l) (h1 : k ≠ 1) (h2 : k ≠ 2) (h3 : k ≠ 3) (h9 : k ≠ 9) :
  Calls Try.prog 9 #[v, .agg #[.int .i64 k, .int .i64 n, .int .i64 u, .int .i64 f, .int .i64 m, .slice sa ns cs, .bool b]] w fun e w' => ∃ x, e = .returned x ∧ OwnSn w.heap.size w' x (takeL l k n u f m) ∧ Below w.heap.size w w' := by
 obtain ⟨iS, hS, hS0, hS1, hS2⟩ := info_parts Try.infoSeen
 have OL := hide h
 obtain ⟨a0, c0, rfl⟩ := g_shape h
 clear h
 have TL : Hid (takeL l k n u f m = l) := by show _ = _; unfold takeL; rw [if_neg h1, if_neg h2, if_neg h3, if_neg h9]
 have q1 : (k == 1) = false := by simpa using h1
 have q2 : (k == 2) = false := by simpa using h2
 have q3 : (k == 3) = false := by simpa using h3
 have q9 : (k == 9) = false := by simpa using h9
 clear h1 h2 h3 h9; have BB := hide (Below.refl w.heap.size w)
 obtain ⟨wk1, hA⟩ : ∃ X, X = w.alloc (.cells ([.int .i64 k, .int .i64 n, .int .i64 u, .int .i64 f, .int .i64 m, .slice sa ns cs, .bool b] : List Value).toArray 27) := ⟨_, rfl⟩
 have Ax : HasObj wk1 w.heap.size 27 [.int .i64 k, .int .i64 n, .int .i64 u, .int .i64 f, .int .i64 m, .slice sa ns cs, .bool b] := by rw [hA]; exact HasObj.new _ _ _
 have hbn : Below w.heap.size w wk1 := by rw [hA]; exact (Below.refl _ _).alloc (Nat.le_refl _) _
 have loA : w.heap.size ≤ w.heap.size := (uh BB).size
 have EA := hA.symm; clear hA; have sz1 := hide (hbn.size); replace BB := hide (below_y (uh BB) hbn); clear hbn; have A := hide Ax; clear Ax
 obtain ⟨wk2, hO⟩ : ∃ X, X = wk1.alloc (.cells #[] 34) := ⟨_, rfl⟩
 have oO : OwnSn wk1.heap.size wk2 (.slice (some ⟨wk1.heap.size, 0, none⟩) 0 0) [] := by rw [hO]; exact World.ownsRow_lit (size := 3) (e := 34) wk1 #[] 0 (Nat.le_refl _) (Nat.zero_le _) rfl
 have hbn : Below wk1.heap.size wk1 wk2 := by rw [hO]; exact (Below.refl _ _).alloc (Nat.le_refl _) _
 have EO := hO.symm; clear hO; replace A := hide ((uh A).ups hbn); have sz2 := hide (hbn.size); replace BB := hide (below_y (uh BB) hbn); clear hbn; have O := hide oO; clear oO; have Ac0_1 := (uh A).cell 0 rfl; have Ac1_1 := (uh A).cell 1 rfl; have Ac2_1 := (uh A).cell 2 rfl; have Ac3_1 := (uh A).cell 3 rfl; have Ac4_1 := (uh A).cell 4 rfl; have Ac5_1 := (uh A).cell 5 rfl; have Ac6_1 := (uh A).cell 6 rfl
 go_enter Try.func9, Try.ntmps9
 go_wp2_with (at_builtin; refine wpList_append_rows rfl _ _ 24 rfl wk1.heap.size B 34 iS _ 3 24 Try.underlying24 hS hS0 hS1 hS2 rfl (by decide) _ _ _ rfl (uh O) _ _ _ rfl ((uh OL).up (uh BB)) (snC_one _) ?c1 ?c2 ?c3 ?_)
 case c1 => simp; unfold maxLen; omega
 case c2 => simp; omega
 case c3 => have sz1_ := uh sz1; have sz2_ := uh sz2; omega
 clear Ac0_1 Ac1_1 Ac2_1 Ac3_1 Ac4_1 Ac5_1 Ac6_1 EA EO
 intro v1 wq o1 hg1
 have A_ := hide ((uh A).kept hg1 (fun e => (uh A).not_row (by decide) (uh O) e.symm))
 have LO : w.heap.size ≤ wk1.heap.size := by have sz1_ := uh sz1; have sz2_ := uh sz2; omega
 have BB_ := hide ((uh BB).grown hg1 (uh BB).size (fun x hx => by have q_ := (World.ownsRow.lt (uh O) x hx).1; omega))
 have O_ : Hid (OwnSn wk1.heap.size wq v1 l) := o1
 clear A BB O o1 hg1; have A := A_; have BB := BB_; have O := O_; clear A_ BB_ O_
 obtain ⟨a3, c3, rfl⟩ := g_shape (uh O)
 have Ac0_2 := (uh A).cell 0 rfl; have Ac1_2 := (uh A).cell 1 rfl; have Ac2_2 := (uh A).cell 2 rfl; have Ac3_2 := (uh A).cell 3 rfl; have Ac4_2 := (uh A).cell 4 rfl; have Ac5_2 := (uh A).cell 5 rfl; have Ac6_2 := (uh A).cell 6 rfl
 go_wp2
 go_ret
 exact ⟨_, rfl, by rw [uh TL]; exact (uh O).based LO, uh BB⟩
set_option maxHeartbeats 4000000 in
set_option maxRecDepth 100000 in
theorem spec_TakeLine_nine (l : List Sn) (v : Value) (n u f m : Int) (b : Bool) (sa : Option Addr) (ns cs B : Nat) (w : World) (hl : l.length ≤ 1048576) (h : OwnSn B w v l) :
  Calls Try.prog 9 #[v, .agg #[.int .i64 9, .int .i64 n, .int .i64 u, .int .i64 f, .int .i64 m, .slice sa ns cs, .bool b]] w fun e w' => ∃ x, e = .returned x ∧ OwnSn w.heap.size w' x (takeL l 9 n u f m) ∧ Below w.heap.size w w' := by
 obtain ⟨iS, hS, hS0, hS1, hS2⟩ := info_parts Try.infoSeen
 have OL := hide h
 obtain ⟨a0, c0, rfl⟩ := g_shape h
 clear h; have BB := hide (Below.refl w.heap.size w)
 obtain ⟨wk1, hA⟩ : ∃ X, X = w.alloc (.cells ([.int .i64 9, .int .i64 n, .int .i64 u, .int .i64 f, .int .i64 m, .slice sa ns cs, .bool b] : List Value).toArray 27) := ⟨_, rfl⟩
 have Ax : HasObj wk1 w.heap.size 27 [.int .i64 9, .int .i64 n, .int .i64 u, .int .i64 f, .int .i64 m, .slice sa ns cs, .bool b] := by rw [hA]; exact HasObj.new _ _ _
 have hbn : Below w.heap.size w wk1 := by rw [hA]; exact (Below.refl _ _).alloc (Nat.le_refl _) _
 have loA : w.heap.size ≤ w.heap.size := (uh BB).size
 have EA := hA.symm; clear hA; have sz1 := hide (hbn.size); replace BB := hide (below_y (uh BB) hbn); clear hbn; have A := hide Ax; clear Ax
 obtain ⟨wk2, hO⟩ : ∃ X, X = wk1.alloc (.cells #[] 34) := ⟨_, rfl⟩
 have oO : OwnSn wk1.heap.size wk2 (.slice (some ⟨wk1.heap.size, 0, none⟩) 0 0) [] := by rw [hO]; exact World.ownsRow_lit (size := 3) (e := 34) wk1 #[] 0 (Nat.le_refl _) (Nat.zero_le _) rfl
 have hbn : Below wk1.heap.size wk1 wk2 := by rw [hO]; exact (Below.refl _ _).alloc (Nat.le_refl _) _
 have EO := hO.symm; clear hO; replace A := hide ((uh A).ups hbn); have sz2 := hide (hbn.size); replace BB := hide (below_y (uh BB) hbn); clear hbn; have O := hide oO; clear oO; have Ac0_1 := (uh A).cell 0 rfl; have Ac1_1 := (uh A).cell 1 rfl; have Ac2_1 := (uh A).cell 2 rfl; have Ac3_1 := (uh A).cell 3 rfl; have Ac4_1 := (uh A).cell 4 rfl; have Ac5_1 := (uh A).cell 5 rfl; have Ac6_1 := (uh A).cell 6 rfl
 go_enter Try.func9, Try.ntmps9
 go_wp2_with (at_builtin; refine wpList_append_rows rfl _ _ 24 rfl wk1.heap.size B 34 iS _ 3 24 Try.underlying24 hS hS0 hS1 hS2 rfl (by decide) _ _ _ rfl (uh O) _ _ _ rfl ((uh OL).up (uh BB)) (snC_one _) ?c1 ?c2 ?c3 ?_)
 case c1 => simp; unfold maxLen; omega
 case c2 => simp; omega
 case c3 => have sz1_ := uh sz1; have sz2_ := uh sz2; omega
 clear Ac0_1 Ac1_1 Ac2_1 Ac3_1 Ac4_1 Ac5_1 Ac6_1 EA EO
 intro v1 wq o1 hg1
 have A_ := hide ((uh A).kept hg1 (fun e => (uh A).not_row (by decide) (uh O) e.symm))
 have LO : w.heap.size ≤ wk1.heap.size := by have sz1_ := uh sz1; have sz2_ := uh sz2; omega
 have BB_ := hide ((uh BB).grown hg1 (uh BB).size (fun x hx => by have q_ := (World.ownsRow.lt (uh O) x hx).1; omega))
 have O_ : Hid (OwnSn wk1.heap.size wq v1 l) := o1
 clear A BB O o1 hg1; have A := A_; have BB := BB_; have O := O_; clear A_ BB_ O_
 obtain ⟨a3, c3, rfl⟩ := g_shape (uh O)
 have Ac0_2 := (uh A).cell 0 rfl; have Ac1_2 := (uh A).cell 1 rfl; have Ac2_2 := (uh A).cell 2 rfl; have Ac3_2 := (uh A).cell 3 rfl; have Ac4_2 := (uh A).cell 4 rfl; have Ac5_2 := (uh A).cell 5 rfl; have Ac6_2 := (uh A).cell 6 rfl; have BQ := hide ((uh BB).size)
 obtain ⟨wk3, hN⟩ : ∃ X, X = wq.alloc (.cells #[] 34) := ⟨_, rfl⟩
 have oN : OwnSn wq.heap.size wk3 (.slice (some ⟨wq.heap.size, 0, none⟩) 0 0) [] := by rw [hN]; exact World.ownsRow_lit (size := 3) (e := 34) wq #[] 0 (Nat.le_refl _) (Nat.zero_le _) rfl
 have hbn : Below wq.heap.size wq wk3 := by rw [hN]; exact (Below.refl _ _).alloc (Nat.le_refl _) _
 have EN := hN.symm; clear hN; replace A := hide ((uh A).ups hbn); have sz3 := hide (hbn.size); replace BB := hide (below_y (uh BB) hbn); clear hbn; have N := hide oN; clear oN
 go_wp2
 go_ret
 exact ⟨_, rfl, (uh N).based (by have q_ := uh BQ; exact q_), uh BB⟩
set_option maxHeartbeats 4000000 in
set_option maxRecDepth 100000 in
theorem spec_TakeLine_one (l : List Sn) (v : Value) (n u f m : Int) (b : Bool) (sa : Option Addr) (ns cs B : Nat) (w : World) (hl : l.length ≤ 1048576) (h : OwnSn B w v l) :
  Calls Try.prog 9 #[v, .agg #[.int .i64 1, .int .i64 n, .int .i64 u, .int .i64 f, .int .i64 m, .slice sa ns cs, .bool b]] w fun e w' => ∃ x, e = .returned x ∧ OwnSn w.heap.size w' x (takeL l 1 n u f m) ∧ Below w.heap.size w w' := by
 obtain ⟨iS, hS, hS0, hS1, hS2⟩ := info_parts Try.infoSeen
 have OL := hide h
 obtain ⟨a0, c0, rfl⟩ := g_shape h
 clear h; have BB := hide (Below.refl w.heap.size w)
 obtain ⟨wk1, hA⟩ : ∃ X, X = w.alloc (.cells ([.int .i64 1, .int .i64 n, .int .i64 u, .int .i64 f, .int .i64 m, .slice sa ns cs, .bool b] : List Value).toArray 27) := ⟨_, rfl⟩
 have Ax : HasObj wk1 w.heap.size 27 [.int .i64 1, .int .i64 n, .int .i64 u, .int .i64 f, .int .i64 m, .slice sa ns cs, .bool b] := by rw [hA]; exact HasObj.new _ _ _
 have hbn : Below w.heap.size w wk1 := by rw [hA]; exact (Below.refl _ _).alloc (Nat.le_refl _) _
 have loA : w.heap.size ≤ w.heap.size := (uh BB).size
 have EA := hA.symm; clear hA; have sz1 := hide (hbn.size); replace BB := hide (below_y (uh BB) hbn); clear hbn; have A := hide Ax; clear Ax
 obtain ⟨wk2, hO⟩ : ∃ X, X = wk1.alloc (.cells #[] 34) := ⟨_, rfl⟩
 have oO : OwnSn wk1.heap.size wk2 (.slice (some ⟨wk1.heap.size, 0, none⟩) 0 0) [] := by rw [hO]; exact World.ownsRow_lit (size := 3) (e := 34) wk1 #[] 0 (Nat.le_refl _) (Nat.zero_le _) rfl
 have hbn : Below wk1.heap.size wk1 wk2 := by rw [hO]; exact (Below.refl _ _).alloc (Nat.le_refl _) _
 have EO := hO.symm; clear hO; replace A := hide ((uh A).ups hbn); have sz2 := hide (hbn.size); replace BB := hide (below_y (uh BB) hbn); clear hbn; have O := hide oO; clear oO; have Ac0_1 := (uh A).cell 0 rfl; have Ac1_1 := (uh A).cell 1 rfl; have Ac2_1 := (uh A).cell 2 rfl; have Ac3_1 := (uh A).cell 3 rfl; have Ac4_1 := (uh A).cell 4 rfl; have Ac5_1 := (uh A).cell 5 rfl; have Ac6_1 := (uh A).cell 6 rfl
 go_enter Try.func9, Try.ntmps9
 go_wp2_with (at_builtin; refine wpList_append_rows rfl _ _ 24 rfl wk1.heap.size B 34 iS _ 3 24 Try.underlying24 hS hS0 hS1 hS2 rfl (by decide) _ _ _ rfl (uh O) _ _ _ rfl ((uh OL).up (uh BB)) (snC_one _) ?c1 ?c2 ?c3 ?_)
 case c1 => simp; unfold maxLen; omega
 case c2 => simp; omega
 case c3 => have sz1_ := uh sz1; have sz2_ := uh sz2; omega
 clear Ac0_1 Ac1_1 Ac2_1 Ac3_1 Ac4_1 Ac5_1 Ac6_1 EA EO
 intro v1 wq o1 hg1
 have LQ1 : wk1.heap.size ≤ wq.heap.size := by have q9_ := hg1.size; have q8_ : wk1.heap.size < wk2.heap.size := (World.ownsRow.lt (uh O) _ rfl).2; omega
 have A_ := hide ((uh A).kept hg1 (fun e => (uh A).not_row (by decide) (uh O) e.symm))
 have LO : w.heap.size ≤ wk1.heap.size := by have sz1_ := uh sz1; have sz2_ := uh sz2; omega
 have BB_ := hide ((uh BB).grown hg1 (uh BB).size (fun x hx => by have q_ := (World.ownsRow.lt (uh O) x hx).1; omega))
 have O_ : Hid (OwnSn wk1.heap.size wq v1 l) := o1
 clear A BB O o1 hg1; have A := A_; have BB := BB_; have O := O_; clear A_ BB_ O_
 obtain ⟨a3, c3, rfl⟩ := g_shape (uh O)
 have LQ0 := hide LQ1; clear LQ1
 cases hb : inI n 0 30 with
 | false =>
  have TL : Hid (takeL l 1 n u f m = l) := by show _ = _; unfold takeL; rw [if_pos rfl, hb]; rfl
  have Ac0_2 := (uh A).cell 0 rfl; have Ac1_2 := (uh A).cell 1 rfl; have Ac2_2 := (uh A).cell 2 rfl; have Ac3_2 := (uh A).cell 3 rfl; have Ac4_2 := (uh A).cell 4 rfl; have Ac5_2 := (uh A).cell 5 rfl; have Ac6_2 := (uh A).cell 6 rfl; go_wp2_with fail
  refine (in_any n 0 30 _).mono ?_
  rintro e wz ⟨rfl, hwz⟩
  subst wz
  rw [hb]
  clear Ac0_2 Ac1_2 Ac2_2 Ac3_2 Ac4_2 Ac5_2 Ac6_2; have Ac0_3 := (uh A).cell 0 rfl; have Ac1_3 := (uh A).cell 1 rfl; have Ac2_3 := (uh A).cell 2 rfl; have Ac3_3 := (uh A).cell 3 rfl; have Ac4_3 := (uh A).cell 4 rfl; have Ac5_3 := (uh A).cell 5 rfl; have Ac6_3 := (uh A).cell 6 rfl
  go_wp2
  go_ret
  exact ⟨_, rfl, by rw [uh TL]; exact (uh O).based LO, uh BB⟩
 | true =>
  have LQ : wk1.heap.size ≤ wq.heap.size := by have q1_ := (uh BB).size; have q2_ := uh LQ0; omega
  obtain ⟨j, rfl, hj1, hj2⟩ := inI_nat hb (by decide)
  have Ac0_2 := (uh A).cell 0 rfl; have Ac1_2 := (uh A).cell 1 rfl; have Ac2_2 := (uh A).cell 2 rfl; have Ac3_2 := (uh A).cell 3 rfl; have Ac4_2 := (uh A).cell 4 rfl; have Ac5_2 := (uh A).cell 5 rfl; have Ac6_2 := (uh A).cell 6 rfl; go_wp2_with fail
  refine (in_any (j : Int) 0 30 _).mono ?_
  rintro e wz ⟨rfl, hwz⟩
  subst wz
  rw [hb]
  clear Ac0_2 Ac1_2 Ac2_2 Ac3_2 Ac4_2 Ac5_2 Ac6_2; have Ac0_3 := (uh A).cell 0 rfl; have Ac1_3 := (uh A).cell 1 rfl; have Ac2_3 := (uh A).cell 2 rfl; have Ac3_3 := (uh A).cell 3 rfl; have Ac4_3 := (uh A).cell 4 rfl; have Ac5_3 := (uh A).cell 5 rfl; have Ac6_3 := (uh A).cell 6 rfl
  go_wp2
  clear Ac0_3 Ac1_3 Ac2_3 Ac3_3 Ac4_3 Ac5_3 Ac6_3
  go_loopw [5] (fun vo wr => ∃ m1 : Nat, (m1 = 0 ∨ l.length + m1 ≤ j) ∧ OwnSn wk1.heap.size wr vo (l ++ List.replicate m1 sn0) ∧ HasObj wr w.heap.size 27 [.int .i64 1, .int .i64 (j : Int), .int .i64 u, .int .i64 f, .int .i64 m, .slice sa ns cs, .bool b] ∧ Below w.heap.size w wr ∧ wk1.heap.size ≤ wr.heap.size) (fun vo _ => j - sliceN vo)
  case atStart => exact ⟨0, .inl rfl, by simpa using uh O, uh A, uh BB, LQ⟩
  case round =>
   obtain ⟨m1, hm1, ho, hA, hbe, hsz1⟩ := hrel
   have LN : (l ++ List.replicate m1 sn0).length = l.length + m1 := by simp
   obtain ⟨z, hz⟩ : ∃ z, z = l.length + m1 := ⟨_, rfl⟩
   unfold OwnSn at ho
   rw [LN, ← hz] at ho
   obtain ⟨av, cv, rfl⟩ := g_shape ho
   have hcv := sn_cap ho; have HZ := hide hz
   rw [← hz] at LN hm1
   clear hz; clear A BB; have A := hide hA; have BB := hide hbe; have OV := hide ho; clear hA hbe ho
   by_cases hlt : z < j
   ·have i1 : (z : Int) < (j : Int) := by omega
    have Ac0_4 := (uh A).cell 0 rfl; have Ac1_4 := (uh A).cell 1 rfl; have Ac2_4 := (uh A).cell 2 rfl; have Ac3_4 := (uh A).cell 3 rfl; have Ac4_4 := (uh A).cell 4 rfl; have Ac5_4 := (uh A).cell 5 rfl; have Ac6_4 := (uh A).cell 6 rfl
    go_wp2_with (at_builtin; refine wpList_append_own _ rfl _ _ 24 rfl wk1.heap.size 34 iS _ 3 24 Try.underlying24 hS hS0 hS1 hS2 rfl (by decide) _ _ _ rfl (World.ownsRow.alloc (uh OV) _) ⟨wr.heap.size, 0, none⟩ 1 1 (snC sn0) rfl rfl (newsS _ _) ?c2 ?c3 ?c4 ?c5 ?_)
    clear Ac0_4 Ac1_4 Ac2_4 Ac3_4 Ac4_4 Ac5_4 Ac6_4
    case c2 => intro x hx; simp [snC] at hx; rcases hx with rfl | rfl | rfl <;> rfl
    case c3 => unfold maxLen; omega
    case c4 => omega
    case c5 => simp; omega
    intro v2 w2 hown hgr _
    have oa := World.ownsRow.alloc (uh OV) (.cells (snC sn0).toArray 34)
    have A_ := hide (((uh A).alloc (.cells (snC sn0).toArray 34)).kept hgr (fun e => ((uh A).alloc (.cells (snC sn0).toArray 34)).not_row (by decide) oa e.symm))
    have BB_ : Hid (Below w.heap.size w w2) := ((uh BB).alloc (uh BB).size _).grown hgr (by have q1_ := (uh BB).size; simp; omega) (fun x hx => by have q2_ := (World.ownsRow.lt (uh OV) x hx).1; omega)
    have O_ : Hid (OwnSn wk1.heap.size w2 v2 (l ++ List.replicate (m1 + 1) sn0)) := by show World.ownsRow _ _ _ _ _ _ _; rw [sn_more, show (l ++ List.replicate (m1 + 1) sn0).length = z + 1 by have hz := uh HZ; simp; omega]; exact hown
    have SZ : wk1.heap.size ≤ w2.heap.size := by have q3_ := hgr.size; simp at q3_; omega
    have SH : Hid (sliceN v2 = z + 1) := by obtain ⟨_, _, e⟩ := g_shape hown; rw [e]; rfl
    obtain ⟨x2, y2, rfl⟩ := g_shape hown
    clear hown hgr oa A BB OV
    go_wp2
    go_roundw
    case rel => exact ⟨m1 + 1, .inr (by have hz := uh HZ; omega), uh O_, uh A_, uh BB_, SZ⟩
    case measure => simp [sliceN]; omega
   ·have i1 : ¬ (z : Int) < (j : Int) := by omega
    have i2 : (j : Int) ≤ (cv : Int) := by omega
    have OP := hide (sn_prefix (uh OV) LN j (by omega))
    have LW := (uh BB).size; have Ac0_4 := (uh A).cell 0 rfl; have Ac1_4 := (uh A).cell 1 rfl; have Ac2_4 := (uh A).cell 2 rfl; have Ac3_4 := (uh A).cell 3 rfl; have Ac4_4 := (uh A).cell 4 rfl; have Ac5_4 := (uh A).cell 5 rfl; have Ac6_4 := (uh A).cell 6 rfl
    obtain ⟨wr1, hN⟩ : ∃ X, X = wr.alloc (.cells #[] 34) := ⟨_, rfl⟩
    have oN : OwnSn wr.heap.size wr1 (.slice (some ⟨wr.heap.size, 0, none⟩) 0 0) [] := by rw [hN]; exact World.ownsRow_lit (size := 3) (e := 34) wr #[] 0 (Nat.le_refl _) (Nat.zero_le _) rfl
    have hbn : Below wr.heap.size wr wr1 := by rw [hN]; exact (Below.refl _ _).alloc (Nat.le_refl _) _
    have EN := hN.symm; clear hN; replace A := hide ((uh A).ups hbn); have sz3 := hide (hbn.size); replace BB := hide (below_y (uh BB) hbn); clear hbn; have N := hide oN; clear oN
    have PL : (List.take j (l ++ List.replicate m1 sn0)).length = j := by rw [List.length_take, LN]; omega
    have OP2 := hide ((uh OP).up ((Below.refl _ _).alloc (Nat.le_refl _) (.cells #[] 34)))
    rw [EN] at OP2
    have OP3 := uh OP2
    unfold OwnSn at OP3
    rw [PL] at OP3
    have OP := hide OP3; clear OP2 OP3; have Ac0_5 := (uh A).cell 0 rfl; have Ac1_5 := (uh A).cell 1 rfl; have Ac2_5 := (uh A).cell 2 rfl; have Ac3_5 := (uh A).cell 3 rfl; have Ac4_5 := (uh A).cell 4 rfl; have Ac5_5 := (uh A).cell 5 rfl; have Ac6_5 := (uh A).cell 6 rfl
    go_wp2_with (at_builtin; refine wpList_append_rows rfl _ _ 24 rfl wr.heap.size wk1.heap.size 34 iS _ 3 24 Try.underlying24 hS hS0 hS1 hS2 rfl (by decide) _ _ _ rfl (uh N) _ _ _ rfl (uh OP) (snC_one _) ?c1 ?c2 ?c3 ?_)
    clear Ac0_4 Ac1_4 Ac2_4 Ac3_4 Ac4_4 Ac5_4 Ac6_4 Ac0_5 Ac1_5 Ac2_5 Ac3_5 Ac4_5 Ac5_5 Ac6_5 EN
    case c1 => unfold maxLen; omega
    case c2 => omega
    case c3 => have sz3_ := uh sz3; omega
    intro v2 w2 hown hgr
    have TL : Hid (takeL l 1 (j : Int) u f m = (l ++ List.replicate m1 sn0).take j) := by show _ = _; unfold takeL; rw [if_pos rfl, hb, take_full l m1 j (by have hz := uh HZ; omega) (by have hz := uh HZ; omega)]; rfl
    have O_ : Hid (OwnSn wr.heap.size w2 v2 ((l ++ List.replicate m1 sn0).take j)) := by show World.ownsRow _ _ _ _ _ _ _; rw [PL]; exact hown
    have BB_ := hide ((uh BB).grown hgr (uh BB).size (fun x hx => by have q_ := (World.ownsRow.lt (uh N) x hx).1; omega))
    clear hown hgr
    go_wp2
    go_ret
    exact ⟨_, rfl, by rw [uh TL]; exact (uh O_).based LW, uh BB_⟩
set_option maxHeartbeats 4000000 in
set_option maxRecDepth 100000 in
theorem spec_TakeLine_two (l : List Sn) (v : Value) (n u f m : Int) (b : Bool) (sa : Option Addr) (ns cs B : Nat) (w : World) (hl : l.length ≤ 1048576) (h : OwnSn B w v l) :
  Calls Try.prog 9 #[v, .agg #[.int .i64 2, .int .i64 n, .int .i64 u, .int .i64 f, .int .i64 m, .slice sa ns cs, .bool b]] w fun e w' => ∃ x, e = .returned x ∧ OwnSn w.heap.size w' x (takeL l 2 n u f m) ∧ Below w.heap.size w w' := by
 obtain ⟨iS, hS, hS0, hS1, hS2⟩ := info_parts Try.infoSeen
 have OL := hide h
 obtain ⟨a0, c0, rfl⟩ := g_shape h
 clear h; have BB := hide (Below.refl w.heap.size w)
 obtain ⟨wk1, hA⟩ : ∃ X, X = w.alloc (.cells ([.int .i64 2, .int .i64 n, .int .i64 u, .int .i64 f, .int .i64 m, .slice sa ns cs, .bool b] : List Value).toArray 27) := ⟨_, rfl⟩
 have Ax : HasObj wk1 w.heap.size 27 [.int .i64 2, .int .i64 n, .int .i64 u, .int .i64 f, .int .i64 m, .slice sa ns cs, .bool b] := by rw [hA]; exact HasObj.new _ _ _
 have hbn : Below w.heap.size w wk1 := by rw [hA]; exact (Below.refl _ _).alloc (Nat.le_refl _) _
 have loA : w.heap.size ≤ w.heap.size := (uh BB).size
 have EA := hA.symm; clear hA; have sz1 := hide (hbn.size); replace BB := hide (below_y (uh BB) hbn); clear hbn; have A := hide Ax; clear Ax
 obtain ⟨wk2, hO⟩ : ∃ X, X = wk1.alloc (.cells #[] 34) := ⟨_, rfl⟩
 have oO : OwnSn wk1.heap.size wk2 (.slice (some ⟨wk1.heap.size, 0, none⟩) 0 0) [] := by rw [hO]; exact World.ownsRow_lit (size := 3) (e := 34) wk1 #[] 0 (Nat.le_refl _) (Nat.zero_le _) rfl
 have hbn : Below wk1.heap.size wk1 wk2 := by rw [hO]; exact (Below.refl _ _).alloc (Nat.le_refl _) _
 have EO := hO.symm; clear hO; replace A := hide ((uh A).ups hbn); have sz2 := hide (hbn.size); replace BB := hide (below_y (uh BB) hbn); clear hbn; have O := hide oO; clear oO; have Ac0_1 := (uh A).cell 0 rfl; have Ac1_1 := (uh A).cell 1 rfl; have Ac2_1 := (uh A).cell 2 rfl; have Ac3_1 := (uh A).cell 3 rfl; have Ac4_1 := (uh A).cell 4 rfl; have Ac5_1 := (uh A).cell 5 rfl; have Ac6_1 := (uh A).cell 6 rfl
 go_enter Try.func9, Try.ntmps9
 go_wp2_with (at_builtin; refine wpList_append_rows rfl _ _ 24 rfl wk1.heap.size B 34 iS _ 3 24 Try.underlying24 hS hS0 hS1 hS2 rfl (by decide) _ _ _ rfl (uh O) _ _ _ rfl ((uh OL).up (uh BB)) (snC_one _) ?c1 ?c2 ?c3 ?_)
 case c1 => simp; unfold maxLen; omega
 case c2 => simp; omega
 case c3 => have sz1_ := uh sz1; have sz2_ := uh sz2; omega
 clear Ac0_1 Ac1_1 Ac2_1 Ac3_1 Ac4_1 Ac5_1 Ac6_1 EA EO
 intro v1 wq o1 hg1
 have A_ := hide ((uh A).kept hg1 (fun e => (uh A).not_row (by decide) (uh O) e.symm))
 have LO : w.heap.size ≤ wk1.heap.size := by have sz1_ := uh sz1; have sz2_ := uh sz2; omega
 have BB_ := hide ((uh BB).grown hg1 (uh BB).size (fun x hx => by have q_ := (World.ownsRow.lt (uh O) x hx).1; omega))
 have O_ : Hid (OwnSn wk1.heap.size wq v1 l) := o1
 clear A BB O o1 hg1; have A := A_; have BB := BB_; have O := O_; clear A_ BB_ O_
 obtain ⟨a3, c3, rfl⟩ := g_shape (uh O)
 have HC := sn_cap (uh OL)
 cases hb : inI n 1 (l.length : Int) with
 | false =>
  have TL : Hid (takeL l 2 n u f m = l) := by show _ = _; unfold takeL; simp [hb]
  have Ac0_2 := (uh A).cell 0 rfl; have Ac1_2 := (uh A).cell 1 rfl; have Ac2_2 := (uh A).cell 2 rfl; have Ac3_2 := (uh A).cell 3 rfl; have Ac4_2 := (uh A).cell 4 rfl; have Ac5_2 := (uh A).cell 5 rfl; have Ac6_2 := (uh A).cell 6 rfl; go_wp2_with fail
  refine (in_any n 1 (l.length : Int) _).mono ?_
  rintro e wz ⟨rfl, hwz⟩
  subst wz
  rw [hb]
  clear Ac0_2 Ac1_2 Ac2_2 Ac3_2 Ac4_2 Ac5_2 Ac6_2; have Ac0_3 := (uh A).cell 0 rfl; have Ac1_3 := (uh A).cell 1 rfl; have Ac2_3 := (uh A).cell 2 rfl; have Ac3_3 := (uh A).cell 3 rfl; have Ac4_3 := (uh A).cell 4 rfl; have Ac5_3 := (uh A).cell 5 rfl; have Ac6_3 := (uh A).cell 6 rfl
  go_wp2
  go_ret
  exact ⟨_, rfl, by rw [uh TL]; exact (uh O).based LO, uh BB⟩
 | true =>
  obtain ⟨k0, hk0, hk1, hk2⟩ := inI_nat hb (by decide)
  obtain ⟨j, rfl⟩ : ∃ j, k0 = j + 1 := ⟨k0 - 1, by omega⟩
  have e1 : n = (j : Int) + 1 := by omega
  subst e1
  clear hk0
  have b1 : IntKind.i64.wrap ((j : Int) + 1 - 1) = (j : Int) := by rw [IntKind.wrap_i64]; omega
  have b2 : IntKind.i64.wrap (j : Int) = (j : Int) := by rw [IntKind.wrap_i64]; omega
  have tn : ((j : Int) + 1).toNat = j + 1 := by omega
  have hjl : j < l.length := by omega
  have Ac0_2 := (uh A).cell 0 rfl; have Ac1_2 := (uh A).cell 1 rfl; have Ac2_2 := (uh A).cell 2 rfl; have Ac3_2 := (uh A).cell 3 rfl; have Ac4_2 := (uh A).cell 4 rfl; have Ac5_2 := (uh A).cell 5 rfl; have Ac6_2 := (uh A).cell 6 rfl; go_wp2_with fail
  refine (in_any ((j : Int) + 1) 1 (l.length : Int) _).mono ?_
  rintro e wz ⟨rfl, hwz⟩
  subst wz
  rw [hb]
  clear Ac0_2 Ac1_2 Ac2_2 Ac3_2 Ac4_2 Ac5_2 Ac6_2
  obtain ⟨g0, rfl⟩ : ∃ g, a0 = some ⟨g, 0, none⟩ := by
   rcases (uh OL).2 with ⟨h1, h0⟩ | ⟨g, _, _, h1, _⟩
   ·omega
   ·cases h1; exact ⟨g, rfl⟩
  have TL : Hid (takeL l 2 ((j : Int) + 1) u f m = l.take j ++ l.drop (j + 1)) := by show _ = _; unfold takeL; simp [hb, tn]
  have i1 : (0 : Int) ≤ (j : Int) := by omega
  have i2 : (j : Int) ≤ (c0 : Int) := by omega
  have i3 : (j : Int) + 1 ≤ (l.length : Int) := by omega
  have i4 : (l.length : Int) ≤ (c0 : Int) := by omega
  have i5 : (j : Int) + 1 ≤ (c0 : Int) := by omega
  have i6 : (0 : Int) ≤ (j : Int) + 1 := by omega
  have SRC : Hid (∀ W, Below w.heap.size w W → ReadSn W (.slice (some ⟨g0, 0, none⟩) l.length c0) l) := fun W hW => ((uh OL).up hW).wide
  clear O; have LW0 := (uh BB).size
  by_cases hc : c0 = j + 1
  ·subst hc
   have EL : Hid (l.length = j + 1) := (by omega : l.length = j + 1)
   have i8 : (l.length : Int) ≤ (j : Int) + 1 := by omega
   have i9 : (j : Int) ≤ (j : Int) + 1 := by omega
   have i10 : (j : Int) + 1 ≤ (j : Int) + 1 := by omega
   have ed : l.drop (j + 1) = [] := List.drop_eq_nil_of_le (by omega)
   clear i2 i4 i5; have Ac0_3 := (uh A).cell 0 rfl; have Ac1_3 := (uh A).cell 1 rfl; have Ac2_3 := (uh A).cell 2 rfl; have Ac3_3 := (uh A).cell 3 rfl; have Ac4_3 := (uh A).cell 4 rfl; have Ac5_3 := (uh A).cell 5 rfl; have Ac6_3 := (uh A).cell 6 rfl; go_wp2_with fail
   refine wp_region_held_drew (S := fun w' => w'.cell? ⟨w.heap.size, 1, none⟩ = some (.int .i64 ((j : Int) + 1))) (by kernel_rfl) ((uh A).cell 1 rfl) (fun hHeld => ?_)
   clear Ac0_3 Ac1_3 Ac2_3 Ac3_3 Ac4_3 Ac5_3 Ac6_3; replace A := hide ((uh A).drew); replace BB := hide ((uh BB).drew)
   have sz3 : Hid (wq.heap.size ≤ wq.drew.heap.size) := Nat.le_refl _
   refine tv 1 41 ?_; refine tv 2 42 ?_; refine tv 3 43 ?_; refine tv 4 44 ?_; refine tv 5 45 ?_; refine tv 7 47 ?_; refine tv 8 48 ?_; refine tv 9 49 ?_; refine tv 10 50 ?_
   refine wpAnyH_ready (rs := [0]) (by kernel_rfl) (by simp) ?_
   refine AllReadyH.cons rfl (fun K hK => ?_) AllReadyH.nil
   go_simp
   have hA : Below wq.drew.heap.size wq.drew (wq.drew.alloc (.cells ([] : List Value).toArray 34)) := (Below.refl _ _).alloc (Nat.le_refl _) _
   replace A := hide ((uh A).ups hA); have sz4 := hide (hA.size); replace BB := hide (below_y (uh BB) hA); clear hA
   refine hK.out _ _ ((uh A).cell 1 rfl) (fun hHeld2 => ?_)
   clear hK K hHeld; have hHeld := hHeld2; clear hHeld2
   try simp only [Act.put, p1, p2, p3]
   have LB := (uh BB).size
   have oN : World.ownsRow (wq.drew.alloc (.cells ([] : List Value).toArray 34)) w.heap.size 34 3 (.slice (some ⟨wq.drew.heap.size, 0, none⟩) 0 0) 0 [] := World.ownsRow_lit (size := 3) (e := 34) wq.drew #[] 0 LW0 (Nat.zero_le _) rfl
   refine wpAnyH_ready (rs := [6]) (by kernel_rfl) (by simp) ?_
   refine AllReadyH.cons rfl (fun K hK => ?_) AllReadyH.nil
   refine wp_append_own _ (.tmp 40) (.tmp 45) 24 rfl w.heap.size 34 iS _ 3 24 Try.underlying24 hS hS0 hS1 hS2 rfl (by decide) _ 0 [] rfl oN ⟨g0, 0, none⟩ j _ (rowC snC (l.take j)) rfl ?c1 ?c2 (snC_one _) ?c3 ?c4 ?c5 ?_
   case c1 => rw [rowC_len snC_len]; simp; (try omega)
   case c2 => exact fun i x hx => readSn_cells (uh SRC _ (uh BB)) i x (rowC_take_get l j i x hx)
   case c3 => unfold maxLen; omega
   case c4 => omega
   case c5 => exact LB
   intro v5 w5 o5 hg5 _
   show K (Act.put _ (some 46) v5) w5
   have A_ := hide ((uh A).kept hg5 (fun e => (uh A).not_row (by decide) oN e.symm))
   have BB_ := hide ((uh BB).grown hg5 LB (fun x hx => by have q_ := (World.ownsRow.lt oN x hx).1; omega))
   clear A BB LB; have A := A_; have BB := BB_; clear A_ BB_
   refine hK.out _ _ ((uh A).cell 1 rfl) (fun hHeld2 => ?_)
   clear hK K hHeld; have hHeld := hHeld2; clear hHeld2
   try simp only [Act.put, p1, p2, p3]
   have LB := (uh BB).size
   simp only [Nat.zero_add, List.nil_append] at o5
   refine wpAnyH_ready (rs := [11]) (by kernel_rfl) (by simp) ?_
   refine AllReadyH.cons rfl (fun K hK => ?_) AllReadyH.nil
   refine wp_append_own _ (.tmp 46) (.tmp 50) 24 rfl w.heap.size 34 iS _ 3 24 Try.underlying24 hS hS0 hS1 hS2 rfl (by decide) _ j _ rfl o5 _ _ _ (rowC snC (l.drop (j + 1))) rfl ?d10 ?d20 (snC_one _) ?d30 ?d40 ?d50 ?_
   case d10 => rw [rowC_len snC_len, List.length_drop]; have q_ : l.length = j + 1 := uh EL; omega
   case d20 => intro i x hx; rw [ed] at hx; simp [rowC] at hx
   case d30 => unfold maxLen; omega
   case d40 => omega
   case d50 => exact LB
   intro v6 w6 o6 hg6 _
   show K (Act.put _ (some 51) v6) w6
   have A_ := hide ((uh A).kept hg6 (fun e => (uh A).not_row (by decide) o5 e.symm))
   have BB_ := hide ((uh BB).grown hg6 LB (fun x hx => by have q_ := (World.ownsRow.lt o5 x hx).1; omega))
   have OF : Hid (OwnSn w.heap.size w6 v6 (l.take j ++ l.drop (j + 1))) := by show World.ownsRow _ _ _ _ _ _ _; rw [rowC_append, show (l.take j ++ l.drop (j + 1)).length = j + 0 by have q_ : l.length = j + 1 := uh EL; simp; omega]; exact o6
   clear A BB LB o6 hg6; have A := A_; have BB := BB_; clear A_ BB_
   refine hK.out _ _ ((uh A).cell 1 rfl) (fun hHeld2 => ?_)
   clear hK K hHeld; have hHeld := hHeld2; clear hHeld2
   try simp only [Act.put, p1, p2, p3]
   refine tv 12 4 ?_
   refine wpAnyH_done (by kernel_rfl) ?_ _
   go_wp2
   go_ret
   exact ⟨_, rfl, by rw [uh TL]; exact uh OF, uh BB⟩
  ·have i7 : ¬ (c0 : Int) = (j : Int) + 1 := by omega
   have Ac0_3 := (uh A).cell 0 rfl; have Ac1_3 := (uh A).cell 1 rfl; have Ac2_3 := (uh A).cell 2 rfl; have Ac3_3 := (uh A).cell 3 rfl; have Ac4_3 := (uh A).cell 4 rfl; have Ac5_3 := (uh A).cell 5 rfl; have Ac6_3 := (uh A).cell 6 rfl; go_wp2_with fail
   refine wp_region_held_drew (S := fun w' => w'.cell? ⟨w.heap.size, 1, none⟩ = some (.int .i64 ((j : Int) + 1))) (by kernel_rfl) ((uh A).cell 1 rfl) (fun hHeld => ?_)
   clear Ac0_3 Ac1_3 Ac2_3 Ac3_3 Ac4_3 Ac5_3 Ac6_3; replace A := hide ((uh A).drew); replace BB := hide ((uh BB).drew)
   have sz3 : Hid (wq.heap.size ≤ wq.drew.heap.size) := Nat.le_refl _
   refine tv 1 41 ?_; refine tv 2 42 ?_; refine tv 3 43 ?_; refine tv 4 44 ?_; refine tv 5 45 ?_; refine tv 7 47 ?_; refine tv 8 48 ?_; refine tv 9 49 ?_; refine tv 10 50 ?_
   refine wpAnyH_ready (rs := [0]) (by kernel_rfl) (by simp) ?_
   refine AllReadyH.cons rfl (fun K hK => ?_) AllReadyH.nil
   go_simp
   have hA : Below wq.drew.heap.size wq.drew (wq.drew.alloc (.cells ([] : List Value).toArray 34)) := (Below.refl _ _).alloc (Nat.le_refl _) _
   replace A := hide ((uh A).ups hA); have sz4 := hide (hA.size); replace BB := hide (below_y (uh BB) hA); clear hA
   refine hK.out _ _ ((uh A).cell 1 rfl) (fun hHeld2 => ?_)
   clear hK K hHeld; have hHeld := hHeld2; clear hHeld2
   try simp only [Act.put, p1, p2, p3]
   have LB := (uh BB).size
   have oN : World.ownsRow (wq.drew.alloc (.cells ([] : List Value).toArray 34)) w.heap.size 34 3 (.slice (some ⟨wq.drew.heap.size, 0, none⟩) 0 0) 0 [] := World.ownsRow_lit (size := 3) (e := 34) wq.drew #[] 0 LW0 (Nat.zero_le _) rfl
   refine wpAnyH_ready (rs := [6]) (by kernel_rfl) (by simp) ?_
   refine AllReadyH.cons rfl (fun K hK => ?_) AllReadyH.nil
   refine wp_append_own _ (.tmp 40) (.tmp 45) 24 rfl w.heap.size 34 iS _ 3 24 Try.underlying24 hS hS0 hS1 hS2 rfl (by decide) _ 0 [] rfl oN ⟨g0, 0, none⟩ j _ (rowC snC (l.take j)) rfl ?c1 ?c2 (snC_one _) ?c3 ?c4 ?c5 ?_
   case c1 => rw [rowC_len snC_len]; simp; (try omega)
   case c2 => exact fun i x hx => readSn_cells (uh SRC _ (uh BB)) i x (rowC_take_get l j i x hx)
   case c3 => unfold maxLen; omega
   case c4 => omega
   case c5 => exact LB
   intro v5 w5 o5 hg5 _
   show K (Act.put _ (some 46) v5) w5
   have A_ := hide ((uh A).kept hg5 (fun e => (uh A).not_row (by decide) oN e.symm))
   have BB_ := hide ((uh BB).grown hg5 LB (fun x hx => by have q_ := (World.ownsRow.lt oN x hx).1; omega))
   clear A BB LB; have A := A_; have BB := BB_; clear A_ BB_
   refine hK.out _ _ ((uh A).cell 1 rfl) (fun hHeld2 => ?_)
   clear hK K hHeld; have hHeld := hHeld2; clear hHeld2
   try simp only [Act.put, p1, p2, p3]
   have LB := (uh BB).size
   simp only [Nat.zero_add, List.nil_append] at o5
   refine wpAnyH_ready (rs := [11]) (by kernel_rfl) (by simp) ?_
   refine AllReadyH.cons rfl (fun K hK => ?_) AllReadyH.nil
   refine wp_append_own _ (.tmp 46) (.tmp 50) 24 rfl w.heap.size 34 iS _ 3 24 Try.underlying24 hS hS0 hS1 hS2 rfl (by decide) _ j _ rfl o5 ⟨g0, (j + 1) * 3, none⟩ (l.length - (j + 1)) _ (rowC snC (l.drop (j + 1))) rfl ?d11 ?d21 (snC_one _) ?d31 ?d41 ?d51 ?_
   case d11 => rw [rowC_len snC_len, List.length_drop]
   case d21 => exact readSn_cells (by have q_ := (uh SRC _ (uh BB)).piece (j + 1) (l.length - (j + 1)) (c0 - (j + 1)) (by omega) (by omega) ((j + 1) * 3) (fun _ => by omega); rw [List.take_of_length_le (by simp)] at q_; exact q_)
   case d31 => unfold maxLen; omega
   case d41 => omega
   case d51 => exact LB
   intro v6 w6 o6 hg6 _
   show K (Act.put _ (some 51) v6) w6
   have A_ := hide ((uh A).kept hg6 (fun e => (uh A).not_row (by decide) o5 e.symm))
   have BB_ := hide ((uh BB).grown hg6 LB (fun x hx => by have q_ := (World.ownsRow.lt o5 x hx).1; omega))
   have OF : Hid (OwnSn w.heap.size w6 v6 (l.take j ++ l.drop (j + 1))) := by show World.ownsRow _ _ _ _ _ _ _; rw [rowC_append, show (l.take j ++ l.drop (j + 1)).length = j + (l.length - (j + 1)) by simp; omega]; exact o6
   clear A BB LB o6 hg6; have A := A_; have BB := BB_; clear A_ BB_
   refine hK.out _ _ ((uh A).cell 1 rfl) (fun hHeld2 => ?_)
   clear hK K hHeld; have hHeld := hHeld2; clear hHeld2
   try simp only [Act.put, p1, p2, p3]
   refine tv 12 4 ?_
   refine wpAnyH_done (by kernel_rfl) ?_ _
   go_wp2
   go_ret
   exact ⟨_, rfl, by rw [uh TL]; exact uh OF, uh BB⟩
set_option maxHeartbeats 4000000 in
set_option maxRecDepth 100000 in
theorem spec_TakeLine_three (l : List Sn) (v : Value) (n u f m : Int) (b : Bool) (sa : Option Addr) (ns cs B : Nat) (w : World) (hl : l.length ≤ 1048576) (h : OwnSn B w v l) :
  Calls Try.prog 9 #[v, .agg #[.int .i64 3, .int .i64 n, .int .i64 u, .int .i64 f, .int .i64 m, .slice sa ns cs, .bool b]] w fun e w' => ∃ x, e = .returned x ∧ OwnSn w.heap.size w' x (takeL l 3 n u f m) ∧ Below w.heap.size w w' := by
 obtain ⟨iS, hS, hS0, hS1, hS2⟩ := info_parts Try.infoSeen
 have OL := hide h
 obtain ⟨a0, c0, rfl⟩ := g_shape h
 clear h; have BB := hide (Below.refl w.heap.size w)
 obtain ⟨wk1, hA⟩ : ∃ X, X = w.alloc (.cells ([.int .i64 3, .int .i64 n, .int .i64 u, .int .i64 f, .int .i64 m, .slice sa ns cs, .bool b] : List Value).toArray 27) := ⟨_, rfl⟩
 have Ax : HasObj wk1 w.heap.size 27 [.int .i64 3, .int .i64 n, .int .i64 u, .int .i64 f, .int .i64 m, .slice sa ns cs, .bool b] := by rw [hA]; exact HasObj.new _ _ _
 have hbn : Below w.heap.size w wk1 := by rw [hA]; exact (Below.refl _ _).alloc (Nat.le_refl _) _
 have loA : w.heap.size ≤ w.heap.size := (uh BB).size
 have EA := hA.symm; clear hA; have sz1 := hide (hbn.size); replace BB := hide (below_y (uh BB) hbn); clear hbn; have A := hide Ax; clear Ax
 obtain ⟨wk2, hO⟩ : ∃ X, X = wk1.alloc (.cells #[] 34) := ⟨_, rfl⟩
 have oO : OwnSn wk1.heap.size wk2 (.slice (some ⟨wk1.heap.size, 0, none⟩) 0 0) [] := by rw [hO]; exact World.ownsRow_lit (size := 3) (e := 34) wk1 #[] 0 (Nat.le_refl _) (Nat.zero_le _) rfl
 have hbn : Below wk1.heap.size wk1 wk2 := by rw [hO]; exact (Below.refl _ _).alloc (Nat.le_refl _) _
 have EO := hO.symm; clear hO; replace A := hide ((uh A).ups hbn); have sz2 := hide (hbn.size); replace BB := hide (below_y (uh BB) hbn); clear hbn; have O := hide oO; clear oO; have Ac0_1 := (uh A).cell 0 rfl; have Ac1_1 := (uh A).cell 1 rfl; have Ac2_1 := (uh A).cell 2 rfl; have Ac3_1 := (uh A).cell 3 rfl; have Ac4_1 := (uh A).cell 4 rfl; have Ac5_1 := (uh A).cell 5 rfl; have Ac6_1 := (uh A).cell 6 rfl
 go_enter Try.func9, Try.ntmps9
 go_wp2_with (at_builtin; refine wpList_append_rows rfl _ _ 24 rfl wk1.heap.size B 34 iS _ 3 24 Try.underlying24 hS hS0 hS1 hS2 rfl (by decide) _ _ _ rfl (uh O) _ _ _ rfl ((uh OL).up (uh BB)) (snC_one _) ?c1 ?c2 ?c3 ?_)
 case c1 => simp; unfold maxLen; omega
 case c2 => simp; omega
 case c3 => have sz1_ := uh sz1; have sz2_ := uh sz2; omega
 clear Ac0_1 Ac1_1 Ac2_1 Ac3_1 Ac4_1 Ac5_1 Ac6_1 EA EO
 intro v1 wq o1 hg1
 have A_ := hide ((uh A).kept hg1 (fun e => (uh A).not_row (by decide) (uh O) e.symm))
 have LO : w.heap.size ≤ wk1.heap.size := by have sz1_ := uh sz1; have sz2_ := uh sz2; omega
 have BB_ := hide ((uh BB).grown hg1 (uh BB).size (fun x hx => by have q_ := (World.ownsRow.lt (uh O) x hx).1; omega))
 have O_ : Hid (OwnSn wk1.heap.size wq v1 l) := o1
 clear A BB O o1 hg1; have A := A_; have BB := BB_; have O := O_; clear A_ BB_ O_
 obtain ⟨a3, c3, rfl⟩ := g_shape (uh O)
 have HC := sn_cap (uh OL)
 cases hb : inI n 1 (l.length : Int) with
 | false =>
  have TL : Hid (takeL l 3 n u f m = l) := by show _ = _; unfold takeL; simp [hb]
  have Ac0_2 := (uh A).cell 0 rfl; have Ac1_2 := (uh A).cell 1 rfl; have Ac2_2 := (uh A).cell 2 rfl; have Ac3_2 := (uh A).cell 3 rfl; have Ac4_2 := (uh A).cell 4 rfl; have Ac5_2 := (uh A).cell 5 rfl; have Ac6_2 := (uh A).cell 6 rfl; go_wp2_with fail
  refine (in_any n 1 (l.length : Int) _).mono ?_
  rintro e wz ⟨rfl, hwz⟩
  subst wz
  rw [hb]
  clear Ac0_2 Ac1_2 Ac2_2 Ac3_2 Ac4_2 Ac5_2 Ac6_2; have Ac0_3 := (uh A).cell 0 rfl; have Ac1_3 := (uh A).cell 1 rfl; have Ac2_3 := (uh A).cell 2 rfl; have Ac3_3 := (uh A).cell 3 rfl; have Ac4_3 := (uh A).cell 4 rfl; have Ac5_3 := (uh A).cell 5 rfl; have Ac6_3 := (uh A).cell 6 rfl
  go_wp2
  go_ret
  exact ⟨_, rfl, by rw [uh TL]; exact (uh O).based LO, uh BB⟩
 | true =>
  obtain ⟨k0, hk0, hk1, hk2⟩ := inI_nat hb (by decide)
  obtain ⟨j, rfl⟩ : ∃ j, k0 = j + 1 := ⟨k0 - 1, by omega⟩
  have e1 : n = (j : Int) + 1 := by omega
  subst e1
  clear hk0
  have b1 : IntKind.i64.wrap ((j : Int) + 1 - 1) = (j : Int) := by rw [IntKind.wrap_i64]; omega
  have b2 : IntKind.i64.wrap (j : Int) = (j : Int) := by rw [IntKind.wrap_i64]; omega
  have tn : ((j : Int) + 1).toNat = j + 1 := by omega
  have hjl : j < l.length := by omega
  have Ac0_2 := (uh A).cell 0 rfl; have Ac1_2 := (uh A).cell 1 rfl; have Ac2_2 := (uh A).cell 2 rfl; have Ac3_2 := (uh A).cell 3 rfl; have Ac4_2 := (uh A).cell 4 rfl; have Ac5_2 := (uh A).cell 5 rfl; have Ac6_2 := (uh A).cell 6 rfl; go_wp2_with fail
  refine (in_any ((j : Int) + 1) 1 (l.length : Int) _).mono ?_
  rintro e wz ⟨rfl, hwz⟩
  subst wz
  rw [hb]
  clear Ac0_2 Ac1_2 Ac2_2 Ac3_2 Ac4_2 Ac5_2 Ac6_2
  obtain ⟨g3, rfl⟩ : ∃ g, a3 = some ⟨g, 0, none⟩ := by
   rcases (uh O).2 with ⟨h1, h0⟩ | ⟨g, _, _, h1, _⟩
   ·omega
   ·cases h1; exact ⟨g, rfl⟩
  have hget : l[j]? = some l[j] := List.getElem?_eq_getElem hjl
  have own1 := uh O
  unfold OwnSn at own1
  have TL : Hid (takeL l 3 ((j : Int) + 1) u f m = l.set j ⟨u, f, m⟩) := by show _ = _; rw [set_cut l j _ hjl]; unfold takeL; simp [hb, tn]
  generalize l[j] = s0 at *
  have f0 := own1.frozenAt (j * 3); have f1 := own1.frozenAt (j * 3 + 1); have f2 := own1.frozenAt (j * 3 + 2)
  obtain ⟨d0, d1, d2⟩ := sn_cells own1 hget hjl
  have st0 := own1.stored (j * 3) (.int .i64 u)
  rw [show j * 3 = j * 3 + 0 from rfl, rowC_set snC_len hget (j := 0) (by decide) ⟨u, s0.flags, s0.mod⟩ (.int .i64 u) rfl] at st0
  have st1 := st0.1.stored (j * 3 + 1) (.int .i64 f)
  rw [rowC_set2 snC_len hget ⟨u, s0.flags, s0.mod⟩ (j := 1) (by decide) ⟨u, f, s0.mod⟩ (.int .i64 f) rfl] at st1
  have st2 := st1.1.stored (j * 3 + 2) (.int .i64 m)
  rw [rowC_set2 snC_len hget ⟨u, f, s0.mod⟩ (j := 2) (by decide) ⟨u, f, m⟩ (.int .i64 m) rfl] at st2
  have HST := hide st2.1
  have hg3 : w.heap.size ≤ g3 := by have q_ : wk1.heap.size ≤ g3 := (own1.lt _ rfl).1; omega
  have hB := hide ((((uh BB).setCell (p := ⟨g3, j * 3, none⟩) hg3 (.int .i64 u)).setCell (p := ⟨g3, j * 3 + 1, none⟩) hg3 (.int .i64 f)).setCell (p := ⟨g3, j * 3 + 2, none⟩) hg3 (.int .i64 m))
  have i1 : (0 : Int) ≤ (j : Int) := by omega
  have i2 : (j : Int) < (l.length : Int) := by omega
  clear own1 hget st0 st1 st2; have Ac0_3 := (uh A).cell 0 rfl; have Ac1_3 := (uh A).cell 1 rfl; have Ac2_3 := (uh A).cell 2 rfl; have Ac3_3 := (uh A).cell 3 rfl; have Ac4_3 := (uh A).cell 4 rfl; have Ac5_3 := (uh A).cell 5 rfl; have Ac6_3 := (uh A).cell 6 rfl
  go_wp2
  go_ret
  exact ⟨_, rfl, by rw [uh TL]; show World.ownsRow _ _ _ _ _ _ _; rw [List.length_set]; exact g_based (uh HST) LO, uh hB⟩
theorem spec_TakeLine_any (l : List Sn) (v : Value) (x : Ln) (sa : Option Addr) (ns cs B : Nat) (w : World) (hl : l.length ≤ 1048576) (h : OwnSn B w v l) :
  Calls Try.prog 9 #[v, lnV x (.slice sa ns cs)] w fun e w' => ∃ y, e = .returned y ∧ OwnSn w.heap.size w' y (takeL l x.kind x.num x.uid x.flags x.mod) ∧ Below w.heap.size w w' := by
 obtain ⟨k, n, u, f, m, s, b⟩ := x
 by_cases h1 : k = 1
 ·subst h1; exact spec_TakeLine_one l v n u f m b sa ns cs B w hl h
 by_cases h2 : k = 2
 ·subst h2; exact spec_TakeLine_two l v n u f m b sa ns cs B w hl h
 by_cases h3 : k = 3
 ·subst h3; exact spec_TakeLine_three l v n u f m b sa ns cs B w hl h
 by_cases h9 : k = 9
 ·subst h9; exact spec_TakeLine_nine l v n u f m b sa ns cs B w hl h
 exact spec_TakeLine_else l v k n u f m b sa ns cs B w hl h h1 h2 h3 h9
end Go.Proofs.Ytgdihceikhkddaa
