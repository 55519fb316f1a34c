/- The program's SetMeet. -/
import Derived.Test.YtkmphclmealkeabImplDrop
import Derived.Deep.AppendLies
namespace Go.Proofs.Ytkmphclmealkeab
open Go.RowKit Go.Deep
open Plain
set_option linter.unusedVariables false

theorem map_snoc {f : Rg → Rg} {l : List Rg} {k : Nat} {m : Rg} (h : l[k]? = some m) : (l.take (k + 1)).map f = (l.take k).map f ++ [f m] := by
  rw [ok_snoc h, List.map_append]
  rfl

set_option maxHeartbeats 4000000 in
set_option maxRecDepth 100000 in
theorem impl_SetMeet_any (s t : List Rg) (v u : Value) (w : World) (hs : s.length ≤ 1048576) (ht : t.length ≤ 1048576) (h : ReadO w v s) (hu : ReadO w u t) :
    Calls Try.prog 20 #[v, u] w fun e w' => ∃ v', e = .returned (.tuple #[v', .bool (twoV s t true).2]) ∧ OwnR w.heap.size w' v' (twoV s t true).1 ∧ Below w.heap.size w w' := by
  obtain ⟨i0, hi, hz0, hz1, hz2⟩ := info_parts Try.infoRange
  obtain ⟨a, c, rfl, _, _⟩ := id h
  obtain ⟨b, d, rfl, _, _⟩ := id hu
  have H := hide h
  have HU := hide hu
  clear h hu
  have OK := hide (impl_SetOk_any s (.slice a s.length c) w hs (unhide H))
  have OK2 := hide (fun W h => impl_SetOk_any t (.slice b t.length d) W ht h)
  cases hok : okS s with
  | false =>
    have PN := hide (two_no (a := s) (b := t) (c := true) (fun h => by rw [hok] at h; cases h.1))
    rw [hok] at OK
    go_enter Try.func20, Try.ntmps20
    go_wp2_with fail
    refine (unhide OK).mono ?_
    rintro e w1 ⟨rfl, hb1⟩
    go_wp2
    go_ret2
    exact ⟨_, by rw [unhide PN]; rfl, by rw [unhide PN]; exact ⟨rfl, .inl ⟨rfl, rfl⟩⟩, hb1⟩
  | true =>
    rw [hok] at OK
    cases hok2 : okS t with
    | false =>
      have PN := hide (two_no (a := s) (b := t) (c := true) (fun h => by rw [hok2] at h; cases h.2))
      rw [hok2] at OK2
      go_enter Try.func20, Try.ntmps20
      go_wp2_with fail
      refine (unhide OK).mono ?_
      rintro e w1 ⟨rfl, hb1⟩
      have Q2 := hide (unhide OK2 w1 ((unhide HU).up hb1))
      go_wp2_with fail
      refine (unhide Q2).mono ?_
      rintro e w2 ⟨rfl, hb2⟩
      go_wp2
      go_ret2
      exact ⟨_, by rw [unhide PN]; rfl, by rw [unhide PN]; exact ⟨rfl, .inl ⟨rfl, rfl⟩⟩, below2 hb1 hb2⟩
    | true =>
      rw [hok2] at OK2
      have TM := hide (two_meet hok hok2)
      have hs40 := (okS_parts hok).2
      have ht40 := (okS_parts hok2).2
      have CS := hide (fun (x : Rg) W' h => impl_cutSet_any t (.slice b t.length d) x.lo x.hi w W' ht (unhide HU) h)
      go_enter Try.func20, Try.ntmps20
      go_wp2_with fail
      refine (unhide OK).mono ?_
      rintro e w1 ⟨rfl, hb1⟩
      have Q2 := hide (unhide OK2 w1 ((unhide HU).up hb1))
      go_wp2_with fail
      refine (unhide Q2).mono ?_
      rintro e w2 ⟨rfl, hb2⟩
      have hW2 := below2 hb1 hb2
      clear hb1 hb2 OK OK2 Q2
      obtain ⟨f, hf⟩ : ∃ f : Rg → List Rg, f = fun x => (metL t x.lo x.hi).map (interR x) := ⟨_, rfl⟩
      have HF := hide hf
      have hfl : ∀ r, (f r).length ≤ 40 := fun r => by
        rw [hf, List.length_map]
        have := congrArg List.length (cut_all t r.lo r.hi)
        simp at this
        omega
      clear hf
      go_wp2
      go_loopw [6, 24] (fun u i wr => ∃ k : Nat, k ≤ s.length ∧ i = .int .i64 k ∧ OwnR w.heap.size wr u ((s.take k).flatMap f) ∧ Below w.heap.size w wr) (fun _ i _ => s.length - (intOf i).toNat)
      case atStart => exact ⟨0, Nat.zero_le _, rfl, ⟨rfl, .inl ⟨rfl, rfl⟩⟩, hW2⟩
      case round =>
        obtain ⟨k, hk, rfl, how, hbel⟩ := hrel
        obtain ⟨wo, hwo⟩ : ∃ wo, wo = wr := ⟨wr, rfl⟩
        subst hwo
        by_cases hlt : k < s.length
        · have hgk : s[k]? = some s[k] := List.getElem?_eq_getElem hlt
          obtain ⟨ma', mc', hv', _, hc'⟩ := (unhide H).up hbel
          cases hv'
          obtain ⟨g, o, hga, hgl, d0, d1⟩ := hc' k _ hgk
          subst hga
          have T := hide (flat_snoc (f := f) hgk)
          have FL := flat_len hfl (s.take k)
          have FK : (s.take k).length = k := by simp; omega
          have CX := hide (unhide CS s[k])
          have FX : Hid (f s[k] = (metL t s[k].lo s[k].hi).map (interR s[k])) := by rw [unhide HF]; rfl
          have FXL := hfl s[k]
          generalize s[k] = x at *
          obtain ⟨xl, xh⟩ := x
          simp only at d0 d1 CX FX
          generalize (s.take k).flatMap f = pl at *
          have hik : (0 : Int) ≤ (k : Int) := by omega
          have hil : (k : Int) < (s.length : Int) := by omega
          have hwr : w.heap.size ≤ wo.heap.size := hbel.size
          clear hgk hc'
          obtain ⟨W1, hW1⟩ : ∃ W1, W1 = wo.alloc (Obj.cells #[Value.int IntKind.i64 xl, Value.int IntKind.i64 xh] 37) := ⟨_, rfl⟩
          have hA : Below wo.heap.size wo W1 := by rw [hW1]; exact (Below.refl _ _).alloc (Nat.le_refl _) _
          have s0 : W1.cell? ⟨wo.heap.size, 0, none⟩ = some (.int .i64 xl) := by rw [hW1]; go_simp
          have s1 : W1.cell? ⟨wo.heap.size, 1, none⟩ = some (.int .i64 xh) := by rw [hW1]; go_simp
          have hsz1 : wo.heap.size < W1.heap.size := by rw [hW1]; simp
          have hB1 : Below w.heap.size w W1 := hbel.trans (hA.mono hwr)
          have O1 : OwnR w.heap.size W1 u6 pl := how.up hA
          have hlt1 : ∀ b, u6.ownBlock = some b → b < wo.heap.size := fun b hb => (how.lt b hb).2
          have C1 := hide (unhide CX W1 ((unhide HU).up hB1))
          have HW1 := hide hW1
          have HLT := hide hlt1
          have OO := hide O1
          clear hW1 hlt1 how O1
          go_wp2_with fail
          rw [← unhide HW1]
          refine (unhide C1).mono ?_
          rintro e w4 ⟨v1, v2, v3, rfl, r1, r2, r3, hb4⟩
          have e0 := (hb4.cell (p := ⟨wo.heap.size, 0, none⟩) hsz1).trans s0
          have e1 := (hb4.cell (p := ⟨wo.heap.size, 1, none⟩) hsz1).trans s1
          have hB4 : Below w.heap.size w w4 := hB1.trans (hb4.mono hB1.size)
          have O4 := (unhide OO).up hb4
          have hsz4 : wo.heap.size < w4.heap.size := Nat.lt_of_lt_of_le hsz1 hb4.size
          obtain ⟨L, hL⟩ : ∃ L, L = metL t xl xh := ⟨_, rfl⟩
          rw [← hL] at r2 FX
          have hLs : L.length ≤ 40 := by rw [unhide FX, List.length_map] at FXL; exact FXL
          clear hL
          obtain ⟨ma, mc, rfl, _, _⟩ := id r2
          have M := hide r2
          clear r1 r2 r3 hb4 hB1 hA s0 s1 hsz1 HW1 OO C1 CX CS
          go_wp2
          go_loopw [6, 37] (fun u i wr => ∃ j : Nat, j ≤ L.length ∧ i = .int .i64 j ∧ OwnR w.heap.size wr u (pl ++ (L.take j).map (interR ⟨xl, xh⟩)) ∧ Below w.heap.size w wr ∧ wr.cell? ⟨wo.heap.size, 0, none⟩ = some (.int .i64 xl) ∧ wr.cell? ⟨wo.heap.size, 1, none⟩ = some (.int .i64 xh) ∧ wo.heap.size < wr.heap.size ∧ ∀ b, u.ownBlock = some b → b ≠ wo.heap.size) (fun _ i _ => L.length - (intOf i).toNat)
          case atStart => exact ⟨0, Nat.zero_le _, rfl, by rw [List.take_zero, List.map_nil, List.append_nil]; exact O4, hB4, e0, e1, hsz4, fun b hb => Nat.ne_of_lt (unhide HLT b hb)⟩
          case round =>
            obtain ⟨j, hj, rfl, how2, hbel2, c0, c1, hbs, hne⟩ := hrel
            clear e0 e1 O4
            by_cases hlt2 : j < L.length
            · have hgj : L[j]? = some L[j] := List.getElem?_eq_getElem hlt2
              obtain ⟨ma', mc', hv', _, hc'⟩ := (unhide M).up hbel2
              cases hv'
              obtain ⟨g2, o2, hga2, hgl2, f0, f1⟩ := hc' j _ hgj
              subst hga2
              have T2 := hide (map_snoc (f := interR ⟨xl, xh⟩) hgj)
              generalize L[j] = y at *
              obtain ⟨yl, yh⟩ := y
              simp only at f0 f1
              have hpl : (pl ++ (L.take j).map (interR ⟨xl, xh⟩)).length ≤ 10000 := by
                rw [List.length_append, List.length_map, List.length_take]
                omega
              have HT : Hid ((pl ++ (L.take j).map (interR ⟨xl, xh⟩)) ++ [interR ⟨xl, xh⟩ ⟨yl, yh⟩] = pl ++ (L.take (j + 1)).map (interR ⟨xl, xh⟩)) := by rw [unhide T2, List.append_assoc]; rfl
              generalize pl ++ (L.take j).map (interR ⟨xl, xh⟩) = ql at *
              have hij : (0 : Int) ≤ (j : Int) := by omega
              have hjl : (j : Int) < (L.length : Int) := by omega
              have hwr2 : w.heap.size ≤ wr.heap.size := hbel2.size
              have OW := hide how2
              have NE := hide hne
              obtain ⟨ua, uc, rfl⟩ := g_shape how2
              clear hgj hc' how2 hne
              obtain ⟨X, hX⟩ : ∃ X, (if xl < yl then yl else xl) = X := ⟨_, rfl⟩
              obtain ⟨Y, hY⟩ : ∃ Y, (if yh < xh then yh else xh) = Y := ⟨_, rfl⟩
              have IR : Hid (interR ⟨xl, xh⟩ ⟨yl, yh⟩ = ⟨X, Y⟩) := by
                unfold interR
                simp only
                show (⟨max xl yl, min xh yh⟩ : Rg) = ⟨X, Y⟩
                rw [← hX, ← hY]
                congr 1
                · split <;> omega
                · split <;> omega
              go_wp2_with (at_builtin; refine wpList_append_lies _ rfl _ _ 42 rfl w.heap.size 37 i0 _ 2 16 Try.underlying42 hi hz0 hz1 hz2 rfl (by decide) _ _ _ rfl (((unhide OW).alloc _).alloc _) ⟨wr.heap.size + 1, 0, none⟩ 1 1 [.int .i64 X, .int .i64 Y] rfl rfl ?c1 ?c2 (by decide) ?c3 ?c4 ?c5 _ rfl ?_)
              case c1 =>
                have e := news_two (W := wr.alloc (Obj.cells #[Value.int IntKind.i64 yl, Value.int IntKind.i64 yh] 37)) (.int .i64 X) (.int .i64 Y)
                have hz : (wr.alloc (Obj.cells #[Value.int IntKind.i64 yl, Value.int IntKind.i64 yh] 37)).heap.size = wr.heap.size + 1 := by simp
                rw [hz] at e
                exact e
              case c2 => intro u hu; simp at hu; rcases hu with rfl | rfl <;> rfl
              case c3 => unfold maxLen; omega
              case c4 => omega
              case c5 => simp; omega
              intro g3 cap3 w3 hown3 hg3 hwhere hlt3
              have hA2 : Below wr.heap.size wr ((wr.alloc (Obj.cells #[Value.int IntKind.i64 yl, Value.int IntKind.i64 yh] 37)).alloc (Obj.cells #[Value.int IntKind.i64 X, Value.int IntKind.i64 Y] 37)) := ((Below.refl _ _).alloc (Nat.le_refl _) _).alloc (by simp) _
              have hG := g_join (g_grown hA2 (Value.slice ua ql.length uc).ownBlock) hg3
              have hnb : some wo.heap.size ≠ (Value.slice ua ql.length uc).ownBlock := fun e => unhide NE _ e.symm rfl
              have c0' := (World.cell?_of_block (a := ⟨wo.heap.size, 0, none⟩) (hG.block _ hbs hnb)).trans c0
              have c1' := (World.cell?_of_block (a := ⟨wo.heap.size, 1, none⟩) (hG.block _ hbs hnb)).trans c1
              have hB3 : Below w.heap.size w w3 := hbel2.grown hG hbel2.size (fun b hb => ((unhide OW).lt b hb).1)
              have hbs3 : wo.heap.size < w3.heap.size := Nat.lt_of_lt_of_le hbs hG.size
              have NE3 : Hid (∀ b, (Value.slice (some ⟨g3, 0, none⟩) (ql.length + 1) cap3).ownBlock = some b → b ≠ wo.heap.size) := by
                intro b hb e
                simp [Value.ownBlock] at hb
                subst hb
                rcases hwhere with h1 | h1
                · exact unhide NE _ h1 e
                · omega
              have O3 : Hid (OwnR w.heap.size w3 (.slice (some ⟨g3, 0, none⟩) (ql.length + 1) cap3) (pl ++ (L.take (j + 1)).map (interR ⟨xl, xh⟩))) := by
                rw [← unhide HT, unhide IR]
                show w3.ownsRow _ _ _ _ _ _
                rw [rgs_append, List.length_append]
                exact hown3
              clear hown3 hg3 hwhere hA2 hG hnb c0 c1 hX hY
              go_wp2
              go_roundw
              case rel => exact ⟨j + 1, by omega, by go_num, unhide O3, hB3, c0', c1', hbs3, unhide NE3⟩
              case measure => simp [intOf]; omega
            · obtain rfl : j = L.length := by omega
              rw [List.take_length, ← unhide FX, ← unhide T] at how2
              have O5 := hide how2
              clear how2
              go_wp2
              go_roundw
              case rel => exact ⟨k + 1, by omega, by go_num, unhide O5, hbel2⟩
              case measure => simp [intOf]; omega
        · obtain rfl : k = s.length := by omega
          rw [List.take_length] at how
          have FL := flat_len hfl s
          have ML : Hid (meetL s t = s.flatMap f) := by rw [unhide HF]; rfl
          generalize s.flatMap f = P at *
          have ON := hide (impl_orNothing_any P u6 w.heap.size wo (by omega) how)
          obtain ⟨ua, uc, rfl⟩ := g_shape how
          clear how
          go_wp2_with fail
          refine (unhide ON).mono ?_
          rintro e w5 ⟨v5, rfl, o5, hb5⟩
          have O5 : Hid (OwnR w.heap.size w5 v5 (twoV s t true).1) := by rw [unhide TM, unhide ML]; exact o5
          have E5 : Hid ((orNo P).2 = (twoV s t true).2) := by rw [unhide TM, unhide ML]; rfl
          clear o5
          generalize (orNo P).2 = d5 at *
          go_wp2
          go_ret2
          exact ⟨v5, by rw [← unhide E5]; rfl, unhide O5, hbel.trans (hb5.mono hbel.size)⟩
end Go.Proofs.Ytkmphclmealkeab
