/- The specification's ReadKeys. Made by gen_keys2.py. -/
import Derived.Test.YthnofckkehephaaGreatDoorKyI3
import Derived.Test.YthnofckkehephaaGreatDoorFlagA
namespace Go.Proofs.YthnofckkehephaaGreatDoor
open Go.RowKit Go.ChangeShapes Go.WideShapes Go.ChangeAt Go.Deep
open Plain
set_option linter.unusedVariables false
set_option linter.unusedSimpArgs false

theorem l01InK_any (x : Int) (w : World) : Calls Tryz.prog 14 #[.int .i64 x, .int .i64 1, .int .i64 20] w fun e w' => e = .returned (.bool (inI x 1 20)) ∧ w' = w := l01In_held x 1 20 w
theorem sBit_any (x : List UInt8) (w : World) : Calls Tryz.prog 13 #[.string ⟨x.toArray⟩] w fun e w' => e = .returned (.int .i64 (bitV x)) ∧ Below w.heap.size w w' := l06Bit_any ⟨x.toArray⟩ w
theorem ex_take (x : List UInt8) : ((⟨x.toArray⟩ : ByteArray).extract 0 2).toList = x.take 2 := by
  rw [ByteArray.toList_eq]; simp [ByteArray.data_extract]
theorem ex_drop (x : List UInt8) : ((⟨x.toArray⟩ : ByteArray).extract 2 x.length).data.toList = x.drop 2 := by
  simp [ByteArray.data_extract]
  exact List.take_of_length_le (by simp)
theorem sBitX_any (x : List UInt8) (w : World) : Calls Tryz.prog 13 #[.string ((⟨x.toArray⟩ : ByteArray).extract 2 x.length)] w fun e w' => e = .returned (.int .i64 (bitV (x.drop 2))) ∧ Below w.heap.size w w' := by
  have q := l06Bit_any ((⟨x.toArray⟩ : ByteArray).extract 2 x.length) w
  rw [ex_drop] at q
  exact q
theorem bit_pos {x : List UInt8} (h : bitV x ≠ 0) : 0 < bitV x := by
  rcases bitV_is x with h1 | h1 | h1 | h1 | h1 | h1 <;> omega
theorem alone_al : aloneP alW = (⟨1, 0, ⟨#[]⟩⟩, true) := rfl
theorem alone_un {x : List UInt8} (h : x.take 2 = unW) : aloneP x = (⟨3, bitV (x.drop 2), ⟨#[]⟩⟩, !bitV (x.drop 2) == 0) := by
  unfold aloneP
  rw [if_neg (by intro e; rw [e] at h; exact absurd h (by decide)), if_pos h]
theorem alone_no {x : List UInt8} (h1 : x ≠ alW) (h : ¬ x.take 2 = unW) : aloneP x = (⟨2, bitV x, ⟨#[]⟩⟩, !bitV x == 0) := by
  unfold aloneP
  rw [if_neg h1, if_neg h]
theorem with_un {x m : List UInt8} (h : x.take 2 = unW) : withP x m = (k0, false) := by
  unfold withP
  rw [if_neg, if_neg, if_neg, if_neg] <;> (intro e; rw [e] at h; exact absurd h (by decide))
theorem with_nil (x : List UInt8) : (withP x []).2 = false := by
  unfold withP
  repeat' split
  all_goals first | rfl | decide +kernel
set_option maxHeartbeats 16000000 in
set_option maxRecDepth 100000 in
theorem spec_ReadKeys_any (l : List (List UInt8)) (v : Value) (w : World) (hn : l.length ≤ 1048576) (hs : ∀ x ∈ l, x.length ≤ 1048576) (h : ReadW w v l) :
    Calls Tryz.prog 5 #[v] w fun e w' => ∃ u, e = .returned (.tuple #[u, .bool (kyV l).2]) ∧ OwnKy w.heap.size w' u (kyV l).1 ∧ Below w.heap.size w w' := by
  obtain ⟨iY, hY, hY0, hY1, hY2⟩ := info_parts Tryz.infoKey
  have BB := hide (Below.refl w.heap.size w)
  have H0 := hide h
  have SZ := hide hs
  obtain ⟨a0, c0, rfl, hc0, hcc⟩ := h
  have RC := hide hcc
  clear hs hcc
  obtain ⟨n, hn_⟩ : ∃ n, n = l.length := ⟨_, rfl⟩
  rw [← hn_] at hn hc0 ⊢
  have HN := hide hn_
  clear hn_
  go_enter Tryz.func5, Tryz.ntmps5
  obtain ⟨w1, hN0⟩ : ∃ X, X = w.alloc (.cells #[] 33) := ⟨_, rfl⟩
  have oN0 : OwnKy w.heap.size w1 (.slice (some ⟨w.heap.size, 0, none⟩) 0 0) [] := by rw [hN0]; exact World.ownsRow_lit (size := 3) (e := 33) w #[] 0 (Nat.le_refl _) (Nat.zero_le _) rfl
  have hbn : Below w.heap.size w w1 := by rw [hN0]; exact (Below.refl _ _).alloc (Nat.le_refl _) _
  have EN0 := hN0.symm
  clear hN0
  have sz1 := hide (hbn.size)
  have BB_ := hide (below_y (unhide BB) hbn)
  clear BB
  have BB := BB_
  clear BB_
  clear hbn
  have N0 := hide oN0
  clear oN0
  have n0lt : w.heap.size < w1.heap.size := (World.ownsRow.lt (unhide N0) _ rfl).2
  obtain ⟨w2, hOU⟩ : ∃ X, X = w1.alloc (.cells #[] 33) := ⟨_, rfl⟩
  have oOU : OwnKy w1.heap.size w2 (.slice (some ⟨w1.heap.size, 0, none⟩) 0 0) [] := by rw [hOU]; exact World.ownsRow_lit (size := 3) (e := 33) w1 #[] 0 (Nat.le_refl _) (Nat.zero_le _) rfl
  have hbn : Below w1.heap.size w1 w2 := by rw [hOU]; exact (Below.refl _ _).alloc (Nat.le_refl _) _
  have EOU := hOU.symm
  clear hOU
  have N0_ := hide ((unhide N0).up hbn)
  clear N0
  have N0 := N0_
  clear N0_
  have sz2 := hide (hbn.size)
  have BB_ := hide (below_y (unhide BB) hbn)
  clear BB
  have BB := BB_
  clear BB_
  clear hbn
  have OU := hide oOU
  clear oOU
  go_wp2
  clear EN0 EOU
  obtain ⟨d, hd, d1, d2⟩ : ∃ d, Hid (d = w1.heap.size) ∧ w.heap.size < d ∧ d ≤ w2.heap.size := ⟨w1.heap.size, rfl, n0lt, Nat.le_of_lt (World.ownsRow.lt (unhide OU) _ rfl).2⟩
  have OD : Hid (OwnKy d w2 (.slice (some ⟨w1.heap.size, 0, none⟩) 0 0) []) := by show OwnKy _ _ _ _; rw [unhide hd]; exact unhide OU
  obtain ⟨REL, HREL⟩ : ∃ REL : Value → Value → World → Prop, Hid (REL = fun u i wr => ∃ (k : Nat) (acc : List Ky), k ≤ l.length ∧ i = .int .i64 (k : Int) ∧ OwnKy d wr u acc ∧ acc.length ≤ 6 ∧ keysF l.length l [] = keysF (l.drop k).length (l.drop k) acc ∧ OwnKy w.heap.size wr (.slice (some ⟨w.heap.size, 0, none⟩) 0 0) [] ∧ d ≤ wr.heap.size ∧ Below w.heap.size w wr) := ⟨_, rfl⟩
  go_loopw [5, 6] (fun u i wr => REL u i wr) (fun _ i _ => n - (intOf i).toNat)
  case atStart => rw [unhide HREL]; exact ⟨0, [], Nat.zero_le _, rfl, unhide OD, Nat.zero_le _, rfl, unhide N0, d2, unhide BB⟩
  clear OD OU N0 d2
  case round =>
    rw [unhide HREL] at hrel
    obtain ⟨k, acc, hk, rfl, hO, ha6, hK, hN, d2, hbel⟩ := hrel
    obtain ⟨wo, hwo⟩ : ∃ wo, wo = wr := ⟨_, rfl⟩
    subst hwo
    obtain ⟨au, cu, rfl⟩ := g_shape hO
    rw [← unhide HN] at hk
    have HK := hide hK
    obtain ⟨m, hm⟩ : ∃ m, m = acc.length := ⟨_, rfl⟩
    have hm6 : m ≤ 6 := by omega
    have hA6 : acc.length ≤ 6 := ha6
    rw [← hm] at hO ⊢
    have HM := hide hm
    have OU := hide hO
    have N0 := hide hN
    clear hK hm hO hN ha6
    clear BB
    have BB := hide hbel
    clear hbel
    by_cases hlt : k < n
    · have e1 : decide (k < n) = true := decide_eq_true hlt
      have e2 : decide ((k : Int) < (n : Int)) = true := decide_eq_true (by omega)
      have i1 : (0 : Int) ≤ (k : Int) := by omega
      have i2 : (k : Int) < (n : Int) := by omega
      have hkl : k < l.length := by rw [← unhide HN]; exact hlt
      obtain ⟨x, hx⟩ : ∃ x, l[k]? = some x := ⟨_, List.getElem?_eq_getElem hkl⟩
      have HX := hide hx
      have xs := unhide SZ x (List.mem_of_getElem? hx)
      obtain ⟨ga, qa, rfl, hga, hca⟩ := unhide RC k x hx
      have xc := g_cell (unhide BB) hca
      clear hx hkl hca
      have nk : IntKind.i64.wrap ((k : Int) + 1) = (k : Int) + 1 := by rw [IntKind.wrap_i64]; omega
      have dr : Hid (l.drop k = x :: l.drop (k + 1)) := by show _ = _; have h9 := unhide HX; obtain ⟨h8, rfl⟩ := List.getElem?_eq_some_iff.1 h9; exact List.drop_eq_getElem_cons h8
      by_cases h3 : k + 1 < n
      · as_aux_lemma =>
          have g1 : decide (k + 1 < n) = true := decide_eq_true (by omega)
          have g2 : decide ((k : Int) + 1 < (n : Int)) = true := decide_eq_true (by omega)
          obtain ⟨mw, hm_⟩ : ∃ y, l[k + 1]? = some y := ⟨_, List.getElem?_eq_getElem (by rw [← unhide HN]; exact h3)⟩
          have HMW := hide hm_
          have ms := unhide SZ mw (List.mem_of_getElem? hm_)
          obtain ⟨gb, qb, eb, hgb, hcb⟩ := unhide RC (k + 1) mw hm_
          cases eb
          have mc := g_cell (unhide BB) hcb
          clear hm_ hcb
          have i3 : (0 : Int) ≤ (k : Int) + 1 := by omega
          have i4 : (k : Int) + 1 < (n : Int) := by omega
          have DR : Hid (l.drop k = x :: mw :: l.drop (k + 2)) := by show _ = _; rw [unhide dr]; have h9 := unhide HMW; obtain ⟨h8, h7⟩ := List.getElem?_eq_some_iff.1 h9; rw [List.drop_eq_getElem_cons h8, h7]
          by_cases h1 : x = alW
          · subst h1
            have NSU : Hid (∀ q, (Value.slice au m cu).ownBlock = some q → q < wo.heap.size) := fun q e => (World.ownsRow.lt (unhide OU) q e).2
            have NSN : w.heap.size < wo.heap.size := by omega
            obtain ⟨wta1, hQ⟩ : ∃ X, X = wo.alloc (.cells ([.int .i64 1, .int .i64 0, .string ⟨#[]⟩] : List Value).toArray 33) := ⟨_, rfl⟩
            have Qx : HasObj wta1 wo.heap.size 33 [.int .i64 1, .int .i64 0, .string ⟨#[]⟩] := by rw [hQ]; exact HasObj.new _ _ _
            have hbn : Below wo.heap.size wo wta1 := by rw [hQ]; exact (Below.refl _ _).alloc (Nat.le_refl _) _
            have loQ : w.heap.size ≤ wo.heap.size := (unhide BB).size
            have EQ := hQ.symm
            clear hQ
            have OU_ := hide ((unhide OU).up hbn)
            clear OU
            have OU := OU_
            clear OU_
            have N0_ := hide ((unhide N0).up hbn)
            clear N0
            have N0 := N0_
            clear N0_
            have sz101 := hide (hbn.size)
            have BB_ := hide (below_y (unhide BB) hbn)
            clear BB
            have BB := BB_
            clear BB_
            clear hbn
            have Q := hide Qx
            clear Qx
            have e3 : decide (n ≤ k) = false := decide_eq_false (by omega)
            have e4 : decide ((n : Int) ≤ (k : Int)) = false := decide_eq_false (by omega)
            by_cases h6 : m = 6
            · have f6 : decide (6 ≤ m) = true := decide_eq_true (by omega)
              have f7 : decide ((6 : Int) ≤ (m : Int)) = true := decide_eq_true (by omega)
              have h6_ : acc.length = 6 := by have := unhide HM; omega
              have Qc0_1 := (unhide Q).cell 0 rfl
              have Qc1_1 := (unhide Q).cell 1 rfl
              have Qc2_1 := (unhide Q).cell 2 rfl
              go_wp2
              go_returns
              have q_ := (unhide HK).trans ((keysF_step (acc := acc) (by rw [unhide dr]; simp)).trans (if_pos (by exact .inr h6_)))
              rw [kyV_none l q_]
              exact ⟨_, rfl, unhide N0, unhide BB⟩
            · have f6 : decide (6 ≤ m) = false := decide_eq_false (by omega)
              have f7 : decide ((6 : Int) ≤ (m : Int)) = false := decide_eq_false (by omega)
              have h6_ : acc.length ≠ 6 := by have := unhide HM; omega
              have Qc0_1 := (unhide Q).cell 0 rfl
              have Qc1_1 := (unhide Q).cell 1 rfl
              have Qc2_1 := (unhide Q).cell 2 rfl
              have lw2 := (unhide BB).size
              go_wp2_with (at_builtin; refine wpList_append_own _ rfl _ _ 24 rfl d 33 iY _ 3 32 Tryz.underlying24 hY hY0 hY1 hY2 rfl (by decide) _ _ _ rfl (World.ownsRow.alloc (unhide OU) _) ⟨wta1.heap.size, 0, none⟩ 1 1 (kyC ⟨1, 0, ⟨#[]⟩⟩) rfl rfl (newsC _ _) ?c2 ?c3 ?c4 ?c5 ?_)
              clear Qc0_1 Qc1_1 Qc2_1 EQ
              case c2 => intro u hu; simp [kyC] at hu; (try rcases hu with rfl | rfl | rfl) <;> (try rcases hu with rfl | rfl) <;> (try subst hu) <;> rfl
              case c3 => unfold maxLen; omega
              case c4 => omega
              case c5 => have q1_ := (unhide BB).size; have sz101_ := unhide sz101; simp; omega
              intro vOU2 wtav2 hown hgr _
              have oa := World.ownsRow.alloc (unhide OU) (.cells ((kyC ⟨1, 0, ⟨#[]⟩⟩) : List Value).toArray 33)
              have Q_ := hide (((unhide Q).alloc (.cells ((kyC ⟨1, 0, ⟨#[]⟩⟩) : List Value).toArray 33)).kept hgr (fun e => by have q1_ := unhide NSU _ e.symm; omega))
              have N0_ : Hid (OwnKy w.heap.size wtav2 (.slice (some ⟨w.heap.size, 0, none⟩) 0 0) ([])) := g_aside (World.ownsRow.alloc (unhide N0) (.cells ((kyC ⟨1, 0, ⟨#[]⟩⟩) : List Value).toArray 33)) hgr (fun q h1 h2 => by have q1_ := (World.ownsRow.lt oa q h1).1; have q2_ : w.heap.size = q := Option.some.inj h2; omega)
              have OU_ : Hid (OwnKy d wtav2 vOU2 (acc ++ [⟨1, 0, ⟨#[]⟩⟩])) := by exact OwnKy.snoc hown
              have BB_ : Hid (Below w.heap.size w wtav2) := ((unhide BB).alloc (unhide BB).size _).grown hgr (by have q1_ := (unhide BB).size; simp; omega) (fun b hb => by have q2_ := (World.ownsRow.lt (unhide OU) b hb).1; have q1_ := (unhide BB).size; have sz101_ := unhide sz101; omega)
              have sz102 : Hid (wta1.heap.size ≤ wtav2.heap.size) := by have q3_ := hgr.size; simp at q3_; show _ ≤ _; omega
              clear Q
              have Q := Q_
              clear Q_
              clear OU
              have OU := OU_
              clear OU_
              clear N0
              have N0 := N0_
              clear N0_
              clear BB
              have BB := BB_
              clear BB_
              clear hown hgr oa lw2
              clear f6 f7
              have ST : Hid (stepP (l.drop k) = (⟨1, 0, ⟨#[]⟩⟩, 1)) := by show _ = _; rw [unhide DR]; exact step_a (x := alW) rfl
              go_wp2
              go_roundw
              case rel => rw [unhide HREL]; exact ⟨k + 1, acc ++ [⟨1, 0, ⟨#[]⟩⟩], by rw [← unhide HN]; omega, by go_num, unhide OU, by rw [List.length_append, ← unhide HM]; show m + 1 ≤ 6; omega, (unhide HK).trans ((keysF_step (acc := acc) (by rw [unhide dr]; simp)).trans ((if_neg (by rw [unhide ST]; intro q_; rcases q_ with q_ | q_; exact absurd (show (1 : Nat) = 0 from q_) (by decide); exact h6_ q_)).trans (by rw [unhide ST, List.drop_drop]))), unhide N0, Nat.le_trans d2 (by have q1_ := (unhide BB).size; have sz101_ := unhide sz101; have sz102_ := unhide sz102; omega), unhide BB⟩
              case measure => simp [intOf]; omega
          · have f1 : (x == [97, 108, 108]) = false := by rw [beq_eq_false_iff_ne]; exact h1
            have NSU : Hid (∀ q, (Value.slice au m cu).ownBlock = some q → q < wo.heap.size) := fun q e => (World.ownsRow.lt (unhide OU) q e).2
            have NSN : w.heap.size < wo.heap.size := by omega
            obtain ⟨wtb1, hQ⟩ : ∃ X, X = wo.alloc (.cells ([.int .i64 0, .int .i64 0, .string ⟨#[]⟩] : List Value).toArray 33) := ⟨_, rfl⟩
            have Qx : HasObj wtb1 wo.heap.size 33 [.int .i64 0, .int .i64 0, .string ⟨#[]⟩] := by rw [hQ]; exact HasObj.new _ _ _
            have hbn : Below wo.heap.size wo wtb1 := by rw [hQ]; exact (Below.refl _ _).alloc (Nat.le_refl _) _
            have loQ : w.heap.size ≤ wo.heap.size := (unhide BB).size
            have EQ := hQ.symm
            clear hQ
            have OU_ := hide ((unhide OU).up hbn)
            clear OU
            have OU := OU_
            clear OU_
            have N0_ := hide ((unhide N0).up hbn)
            clear N0
            have N0 := N0_
            clear N0_
            have sz101 := hide (hbn.size)
            have BB_ := hide (below_y (unhide BB) hbn)
            clear BB
            have BB := BB_
            clear BB_
            clear hbn
            have Q := hide Qx
            clear Qx
            have EQ_ := hide EQ
            clear EQ
            have EQ := EQ_
            clear EQ_
            obtain ⟨bv, hbv⟩ : ∃ z, z = bitV x := ⟨_, rfl⟩
            have HBV := hide hbv
            go_wp2_with fail
            rw [unhide EQ]
            clear EQ
            refine (sBit_any x _).mono ?_
            rintro e wtb2 ⟨rfl, hb⟩
            rw [← hbv]
            clear hbv
            have Q_ := hide ((unhide Q).ups hb)
            clear Q
            have Q := Q_
            clear Q_
            have OU_ := hide ((unhide OU).up hb)
            clear OU
            have OU := OU_
            clear OU_
            have N0_ := hide ((unhide N0).up hb)
            clear N0
            have N0 := N0_
            clear N0_
            have sz102 := hide (hb.size)
            have BB_ := hide (below_y (unhide BB) hb)
            clear BB
            have BB := BB_
            clear BB_
            clear hb
            by_cases h2 : bv = 0
            · as_aux_lemma =>
                subst h2
                by_cases hu : x.take 2 = unW
                · as_aux_lemma =>
                    have fw0 : (x == [115, 117, 98, 106, 101, 99, 116]) = false := by rw [beq_eq_false_iff_ne]; intro e; rw [e] at hu; exact absurd hu (by decide)
                    have fw1 : (x == [116, 101, 120, 116]) = false := by rw [beq_eq_false_iff_ne]; intro e; rw [e] at hu; exact absurd hu (by decide)
                    have fw2 : (x == [117, 105, 100]) = false := by rw [beq_eq_false_iff_ne]; intro e; rw [e] at hu; exact absurd hu (by decide)
                    have fw3 : (x == [109, 111, 100, 115, 101, 113]) = false := by rw [beq_eq_false_iff_ne]; intro e; rw [e] at hu; exact absurd hu (by decide)
                    by_cases hl2 : 2 < x.length
                    · have q1 : decide (2 < x.length) = true := decide_eq_true hl2
                      have q2 : decide ((2 : Int) < (x.length : Int)) = true := decide_eq_true (by omega)
                      have q3 : (((⟨x.toArray⟩ : ByteArray).extract 0 2).toList == [117, 110]) = true := by rw [ex_take, hu]; decide
                      have q4 : (2 : Int) ≤ (x.length : Int) := by omega
                      have q5 : 2 ≤ x.length := by omega
                      obtain ⟨bw, hbw⟩ : ∃ z, z = bitV (x.drop 2) := ⟨_, rfl⟩
                      have HBW := hide hbw
                      clear hbw
                      go_wp2_with fail
                      refine (sBitX_any x _).mono ?_
                      rintro e wtbnuy3 ⟨rfl, hb⟩
                      rw [← unhide HBW]
                      have Q_ := hide ((unhide Q).ups hb)
                      clear Q
                      have Q := Q_
                      clear Q_
                      have OU_ := hide ((unhide OU).up hb)
                      clear OU
                      have OU := OU_
                      clear OU_
                      have N0_ := hide ((unhide N0).up hb)
                      clear N0
                      have N0 := N0_
                      clear N0_
                      have sz103 := hide (hb.size)
                      have BB_ := hide (below_y (unhide BB) hb)
                      clear BB
                      have BB := BB_
                      clear BB_
                      clear hb
                      by_cases hw0 : bw = 0
                      · as_aux_lemma =>
                          subst hw0
                          go_wp2
                          go_returns
                          have q_ := (unhide HK).trans ((keysF_step (acc := acc) (by rw [unhide dr]; simp)).trans (if_pos (by left; rw [unhide DR, step_d (by rw [alone_un hu]; show (!bitV (x.drop 2) == 0) = false; rw [← unhide HBW]; rfl) (by rw [with_un hu])])))
                          rw [kyV_none l q_]
                          exact ⟨_, rfl, unhide N0, unhide BB⟩
                      · as_aux_lemma =>
                          have hp : 0 < bw := by rw [unhide HBW]; exact bit_pos (by rw [← unhide HBW]; exact hw0)
                          have p1 : decide (0 < bw) = true := decide_eq_true hp
                          go_wp2_with fail
                          refine (sBitX_any x _).mono ?_
                          rintro e wtbnuyb4 ⟨rfl, hb⟩
                          rw [← unhide HBW]
                          have Q_ := hide ((unhide Q).ups hb)
                          clear Q
                          have Q := Q_
                          clear Q_
                          have OU_ := hide ((unhide OU).up hb)
                          clear OU
                          have OU := OU_
                          clear OU_
                          have N0_ := hide ((unhide N0).up hb)
                          clear N0
                          have N0 := N0_
                          clear N0_
                          have sz104 := hide (hb.size)
                          have BB_ := hide (below_y (unhide BB) hb)
                          clear BB
                          have BB := BB_
                          clear BB_
                          clear hb
                          have Qf0 := (unhide Q).frozen 0
                          have Qf1 := (unhide Q).frozen 1
                          have Qf2 := (unhide Q).frozen 2
                          have Qe0 := (unhide Q).cell 0 rfl
                          have Qe1 := (unhide Q).cell 1 rfl
                          have Qe2 := (unhide Q).cell 2 rfl
                          have F_ := hide (fill3 (unhide Q) (.int .i64 3) (.int .i64 bw) (.string ⟨#[]⟩))
                          obtain ⟨wtbnuyb5, hU⟩ : ∃ U, U = (((wtbnuyb4.setCell ⟨wo.heap.size, 0, none⟩ (.int .i64 3)).setCell ⟨wo.heap.size, 1, none⟩ (.int .i64 bw)).setCell ⟨wo.heap.size, 2, none⟩ (.string ⟨#[]⟩)) := ⟨_, rfl⟩
                          have GU_ : wtbnuyb4.grownBy wtbnuyb5 (some (wo.heap.size)) := by rw [hU]; exact g_store (g_store (g_store (g_self _ _) _) _) _
                          have F := unhide F_
                          rw [← hU] at F
                          have EU := hU.symm
                          clear hU F_
                          have Q_ := hide F.obj
                          have OU_ : Hid (OwnKy d wtbnuyb5 (.slice au m cu) (acc)) := g_aside (unhide OU) GU_ (fun q h1 h2 => by have q1_ := unhide NSU q h2; have q2_ := Option.some.inj h1; omega)
                          have N0_ : Hid (OwnKy w.heap.size wtbnuyb5 (.slice (some ⟨w.heap.size, 0, none⟩) 0 0) ([])) := g_aside (unhide N0) GU_ (fun q h1 h2 => by have q1_ := Option.some.inj h1; have q2_ : w.heap.size = q := Option.some.inj h2; omega)
                          have BB_ : Hid (Below w.heap.size w wtbnuyb5) := F.below loQ (unhide BB)
                          have sz105 : Hid (wtbnuyb4.heap.size ≤ wtbnuyb5.heap.size) := by show _ ≤ _; rw [F.size]; exact Nat.le_refl _
                          clear Q
                          have Q := Q_
                          clear Q_
                          clear OU
                          have OU := OU_
                          clear OU_
                          clear N0
                          have N0 := N0_
                          clear N0_
                          clear BB
                          have BB := BB_
                          clear BB_
                          clear F GU_
                          have e3 : decide (n ≤ k) = false := decide_eq_false (by omega)
                          have e4 : decide ((n : Int) ≤ (k : Int)) = false := decide_eq_false (by omega)
                          by_cases h6 : m = 6
                          · have f6 : decide (6 ≤ m) = true := decide_eq_true (by omega)
                            have f7 : decide ((6 : Int) ≤ (m : Int)) = true := decide_eq_true (by omega)
                            have h6_ : acc.length = 6 := by have := unhide HM; omega
                            have Qc0_1 := (unhide Q).cell 0 rfl
                            have Qc1_1 := (unhide Q).cell 1 rfl
                            have Qc2_1 := (unhide Q).cell 2 rfl
                            go_wp2
                            go_returns
                            have q_ := (unhide HK).trans ((keysF_step (acc := acc) (by rw [unhide dr]; simp)).trans (if_pos (by exact .inr h6_)))
                            rw [kyV_none l q_]
                            exact ⟨_, rfl, unhide N0, unhide BB⟩
                          · have f6 : decide (6 ≤ m) = false := decide_eq_false (by omega)
                            have f7 : decide ((6 : Int) ≤ (m : Int)) = false := decide_eq_false (by omega)
                            have h6_ : acc.length ≠ 6 := by have := unhide HM; omega
                            have Qc0_1 := (unhide Q).cell 0 rfl
                            have Qc1_1 := (unhide Q).cell 1 rfl
                            have Qc2_1 := (unhide Q).cell 2 rfl
                            have lw6 := (unhide BB).size
                            go_wp2_with (at_builtin; refine wpList_append_own _ rfl _ _ 24 rfl d 33 iY _ 3 32 Tryz.underlying24 hY hY0 hY1 hY2 rfl (by decide) _ _ _ rfl (World.ownsRow.alloc (unhide OU) _) ⟨wtbnuyb5.heap.size, 0, none⟩ 1 1 (kyC ⟨3, bw, ⟨#[]⟩⟩) rfl rfl (newsC _ _) ?c2 ?c3 ?c4 ?c5 ?_)
                            clear Qf0 Qf1 Qf2 Qe0 Qe1 Qe2 Qc0_1 Qc1_1 Qc2_1 EU
                            case c2 => intro u hu; simp [kyC] at hu; (try rcases hu with rfl | rfl | rfl) <;> (try rcases hu with rfl | rfl) <;> (try subst hu) <;> rfl
                            case c3 => unfold maxLen; omega
                            case c4 => omega
                            case c5 => have q1_ := (unhide BB).size; have sz101_ := unhide sz101; have sz102_ := unhide sz102; have sz103_ := unhide sz103; have sz104_ := unhide sz104; have sz105_ := unhide sz105; simp; omega
                            intro vOU6 wtbnuybv6 hown hgr _
                            have oa := World.ownsRow.alloc (unhide OU) (.cells ((kyC ⟨3, bw, ⟨#[]⟩⟩) : List Value).toArray 33)
                            have Q_ := hide (((unhide Q).alloc (.cells ((kyC ⟨3, bw, ⟨#[]⟩⟩) : List Value).toArray 33)).kept hgr (fun e => by have q1_ := unhide NSU _ e.symm; omega))
                            have N0_ : Hid (OwnKy w.heap.size wtbnuybv6 (.slice (some ⟨w.heap.size, 0, none⟩) 0 0) ([])) := g_aside (World.ownsRow.alloc (unhide N0) (.cells ((kyC ⟨3, bw, ⟨#[]⟩⟩) : List Value).toArray 33)) hgr (fun q h1 h2 => by have q1_ := (World.ownsRow.lt oa q h1).1; have q2_ : w.heap.size = q := Option.some.inj h2; omega)
                            have OU_ : Hid (OwnKy d wtbnuybv6 vOU6 (acc ++ [⟨3, bw, ⟨#[]⟩⟩])) := by exact OwnKy.snoc hown
                            have BB_ : Hid (Below w.heap.size w wtbnuybv6) := ((unhide BB).alloc (unhide BB).size _).grown hgr (by have q1_ := (unhide BB).size; simp; omega) (fun b hb => by have q2_ := (World.ownsRow.lt (unhide OU) b hb).1; have q1_ := (unhide BB).size; have sz101_ := unhide sz101; have sz102_ := unhide sz102; have sz103_ := unhide sz103; have sz104_ := unhide sz104; have sz105_ := unhide sz105; omega)
                            have sz106 : Hid (wtbnuyb5.heap.size ≤ wtbnuybv6.heap.size) := by have q3_ := hgr.size; simp at q3_; show _ ≤ _; omega
                            clear Q
                            have Q := Q_
                            clear Q_
                            clear OU
                            have OU := OU_
                            clear OU_
                            clear N0
                            have N0 := N0_
                            clear N0_
                            clear BB
                            have BB := BB_
                            clear BB_
                            clear hown hgr oa lw6
                            clear f6 f7
                            have ST : Hid (stepP (l.drop k) = (⟨3, bw, ⟨#[]⟩⟩, 1)) := by show _ = _; rw [unhide DR]; rw [step_a (by rw [alone_un hu, ← unhide HBW]; simp; exact hw0), alone_un hu, ← unhide HBW]
                            go_wp2
                            go_roundw
                            case rel => rw [unhide HREL]; exact ⟨k + 1, acc ++ [⟨3, bw, ⟨#[]⟩⟩], by rw [← unhide HN]; omega, by go_num, unhide OU, by rw [List.length_append, ← unhide HM]; show m + 1 ≤ 6; omega, (unhide HK).trans ((keysF_step (acc := acc) (by rw [unhide dr]; simp)).trans ((if_neg (by rw [unhide ST]; intro q_; rcases q_ with q_ | q_; exact absurd (show (1 : Nat) = 0 from q_) (by decide); exact h6_ q_)).trans (by rw [unhide ST, List.drop_drop]))), unhide N0, Nat.le_trans d2 (by have q1_ := (unhide BB).size; have sz101_ := unhide sz101; have sz102_ := unhide sz102; have sz103_ := unhide sz103; have sz104_ := unhide sz104; have sz105_ := unhide sz105; have sz106_ := unhide sz106; omega), unhide BB⟩
                            case measure => simp [intOf]; omega
                    · have q1 : decide (2 < x.length) = false := decide_eq_false hl2
                      have q2 : decide ((2 : Int) < (x.length : Int)) = false := decide_eq_false (by omega)
                      go_wp2
                      go_returns
                      have q_ := (unhide HK).trans ((keysF_step (acc := acc) (by rw [unhide dr]; simp)).trans (if_pos (by left; rw [unhide DR, step_d (by rw [alone_un hu]; show (!bitV (x.drop 2) == 0) = false; rw [un_more hu (by omega)]; rfl) (by rw [with_un hu])])))
                      rw [kyV_none l q_]
                      exact ⟨_, rfl, unhide N0, unhide BB⟩
                · by_cases hw0 : x = suW
                  · as_aux_lemma =>
                      have fw0 : (x == [115, 117, 98, 106, 101, 99, 116]) = true := by rw [hw0]; decide
                      have fw1 : (x == [116, 101, 120, 116]) = false := by rw [hw0]; decide
                      have fw2 : (x == [117, 105, 100]) = false := by rw [hw0]; decide
                      have fw3 : (x == [109, 111, 100, 115, 101, 113]) = false := by rw [hw0]; decide
                      have hl2 : 2 < x.length := by rw [hw0]; decide
                      have q1 : decide (2 < x.length) = true := decide_eq_true hl2
                      have q2 : decide ((2 : Int) < (x.length : Int)) = true := decide_eq_true (by omega)
                      have q3 : (((⟨x.toArray⟩ : ByteArray).extract 0 2).toList == [117, 110]) = false := by rw [ex_take, beq_eq_false_iff_ne]; exact hu
                      have q4 : (2 : Int) ≤ (x.length : Int) := by omega
                      have q5 : 2 ≤ x.length := by omega
                      have HW := hide hw0
                      clear hw0
                      have Qf0 := (unhide Q).frozen 0
                      have Qf1 := (unhide Q).frozen 1
                      have Qf2 := (unhide Q).frozen 2
                      have Qe0 := (unhide Q).cell 0 rfl
                      have Qe1 := (unhide Q).cell 1 rfl
                      have Qe2 := (unhide Q).cell 2 rfl
                      have F_ := hide (fill3 (unhide Q) (.int .i64 4) (.int .i64 0) (.string ⟨mw.toArray⟩))
                      obtain ⟨wtbnwk03, hU⟩ : ∃ U, U = (((wtb2.setCell ⟨wo.heap.size, 0, none⟩ (.int .i64 4)).setCell ⟨wo.heap.size, 1, none⟩ (.int .i64 0)).setCell ⟨wo.heap.size, 2, none⟩ (.string ⟨mw.toArray⟩)) := ⟨_, rfl⟩
                      have GU_ : wtb2.grownBy wtbnwk03 (some (wo.heap.size)) := by rw [hU]; exact g_store (g_store (g_store (g_self _ _) _) _) _
                      have F := unhide F_
                      rw [← hU] at F
                      have EU := hU.symm
                      clear hU F_
                      have Q_ := hide F.obj
                      have OU_ : Hid (OwnKy d wtbnwk03 (.slice au m cu) (acc)) := g_aside (unhide OU) GU_ (fun q h1 h2 => by have q1_ := unhide NSU q h2; have q2_ := Option.some.inj h1; omega)
                      have N0_ : Hid (OwnKy w.heap.size wtbnwk03 (.slice (some ⟨w.heap.size, 0, none⟩) 0 0) ([])) := g_aside (unhide N0) GU_ (fun q h1 h2 => by have q1_ := Option.some.inj h1; have q2_ : w.heap.size = q := Option.some.inj h2; omega)
                      have BB_ : Hid (Below w.heap.size w wtbnwk03) := F.below loQ (unhide BB)
                      have sz103 : Hid (wtb2.heap.size ≤ wtbnwk03.heap.size) := by show _ ≤ _; rw [F.size]; exact Nat.le_refl _
                      clear Q
                      have Q := Q_
                      clear Q_
                      clear OU
                      have OU := OU_
                      clear OU_
                      clear N0
                      have N0 := N0_
                      clear N0_
                      clear BB
                      have BB := BB_
                      clear BB_
                      clear F GU_
                      obtain ⟨bl, hbl⟩ : ∃ z, z = inI mw.length 1 20 := ⟨_, rfl⟩
                      have HBL := hide hbl
                      clear hbl
                      go_wp2_with fail
                      clear Qf0 Qf1 Qf2 Qe0 Qe1 Qe2 EU
                      refine (l01InK_any (mw.length : Int) _).mono ?_
                      rintro e wtbnwk04 ⟨rfl, hb⟩
                      subst wtbnwk04
                      rw [← unhide HBL]
                      cases bl
                      · go_wp2
                        go_returns
                        have q_ := (unhide HK).trans ((keysF_step (acc := acc) (by rw [unhide dr]; simp)).trans (if_pos (by left; rw [unhide DR, step_d (by rw [unhide HW]; decide +kernel) (by rw [unhide HW]; unfold withP; rw [if_pos rfl]; exact (unhide HBL).symm)])))
                        rw [kyV_none l q_]
                        exact ⟨_, rfl, unhide N0, unhide BB⟩
                      · have e3 : decide (n ≤ k + 1) = false := decide_eq_false (by omega)
                        have e4 : decide ((n : Int) ≤ (k : Int) + 1) = false := decide_eq_false (by omega)
                        by_cases h6 : m = 6
                        · have f6 : decide (6 ≤ m) = true := decide_eq_true (by omega)
                          have f7 : decide ((6 : Int) ≤ (m : Int)) = true := decide_eq_true (by omega)
                          have h6_ : acc.length = 6 := by have := unhide HM; omega
                          have Qc0_1 := (unhide Q).cell 0 rfl
                          have Qc1_1 := (unhide Q).cell 1 rfl
                          have Qc2_1 := (unhide Q).cell 2 rfl
                          go_wp2
                          go_returns
                          have q_ := (unhide HK).trans ((keysF_step (acc := acc) (by rw [unhide dr]; simp)).trans (if_pos (by exact .inr h6_)))
                          rw [kyV_none l q_]
                          exact ⟨_, rfl, unhide N0, unhide BB⟩
                        · have f6 : decide (6 ≤ m) = false := decide_eq_false (by omega)
                          have f7 : decide ((6 : Int) ≤ (m : Int)) = false := decide_eq_false (by omega)
                          have h6_ : acc.length ≠ 6 := by have := unhide HM; omega
                          have Qc0_1 := (unhide Q).cell 0 rfl
                          have Qc1_1 := (unhide Q).cell 1 rfl
                          have Qc2_1 := (unhide Q).cell 2 rfl
                          have lw5 := (unhide BB).size
                          go_wp2_with (at_builtin; refine wpList_append_own _ rfl _ _ 24 rfl d 33 iY _ 3 32 Tryz.underlying24 hY hY0 hY1 hY2 rfl (by decide) _ _ _ rfl (World.ownsRow.alloc (unhide OU) _) ⟨wtbnwk03.heap.size, 0, none⟩ 1 1 (kyC ⟨4, 0, ⟨mw.toArray⟩⟩) rfl rfl (newsC _ _) ?c2 ?c3 ?c4 ?c5 ?_)
                          clear Qc0_1 Qc1_1 Qc2_1
                          case c2 => intro u hu; simp [kyC] at hu; (try rcases hu with rfl | rfl | rfl) <;> (try rcases hu with rfl | rfl) <;> (try subst hu) <;> rfl
                          case c3 => unfold maxLen; omega
                          case c4 => omega
                          case c5 => have q1_ := (unhide BB).size; have sz101_ := unhide sz101; have sz102_ := unhide sz102; have sz103_ := unhide sz103; simp; omega
                          intro vOU5 wtbnwk0tv5 hown hgr _
                          have oa := World.ownsRow.alloc (unhide OU) (.cells ((kyC ⟨4, 0, ⟨mw.toArray⟩⟩) : List Value).toArray 33)
                          have Q_ := hide (((unhide Q).alloc (.cells ((kyC ⟨4, 0, ⟨mw.toArray⟩⟩) : List Value).toArray 33)).kept hgr (fun e => by have q1_ := unhide NSU _ e.symm; omega))
                          have N0_ : Hid (OwnKy w.heap.size wtbnwk0tv5 (.slice (some ⟨w.heap.size, 0, none⟩) 0 0) ([])) := g_aside (World.ownsRow.alloc (unhide N0) (.cells ((kyC ⟨4, 0, ⟨mw.toArray⟩⟩) : List Value).toArray 33)) hgr (fun q h1 h2 => by have q1_ := (World.ownsRow.lt oa q h1).1; have q2_ : w.heap.size = q := Option.some.inj h2; omega)
                          have OU_ : Hid (OwnKy d wtbnwk0tv5 vOU5 (acc ++ [⟨4, 0, ⟨mw.toArray⟩⟩])) := by exact OwnKy.snoc hown
                          have BB_ : Hid (Below w.heap.size w wtbnwk0tv5) := ((unhide BB).alloc (unhide BB).size _).grown hgr (by have q1_ := (unhide BB).size; simp; omega) (fun b hb => by have q2_ := (World.ownsRow.lt (unhide OU) b hb).1; have q1_ := (unhide BB).size; have sz101_ := unhide sz101; have sz102_ := unhide sz102; have sz103_ := unhide sz103; omega)
                          have sz104 : Hid (wtbnwk03.heap.size ≤ wtbnwk0tv5.heap.size) := by have q3_ := hgr.size; simp at q3_; show _ ≤ _; omega
                          clear Q
                          have Q := Q_
                          clear Q_
                          clear OU
                          have OU := OU_
                          clear OU_
                          clear N0
                          have N0 := N0_
                          clear N0_
                          clear BB
                          have BB := BB_
                          clear BB_
                          clear hown hgr oa lw5
                          clear f6 f7
                          have ST : Hid (stepP (l.drop k) = (⟨4, 0, ⟨mw.toArray⟩⟩, 2)) := by show _ = _; rw [unhide DR]; rw [step_c (by rw [unhide HW]; decide +kernel) (by rw [unhide HW]; unfold withP; rw [if_pos rfl]; exact (unhide HBL).symm)]; rw [unhide HW]; unfold withP; rw [if_pos rfl]
                          go_wp2
                          go_roundw
                          case rel => rw [unhide HREL]; exact ⟨k + 2, acc ++ [⟨4, 0, ⟨mw.toArray⟩⟩], by rw [← unhide HN]; omega, by go_num, unhide OU, by rw [List.length_append, ← unhide HM]; show m + 1 ≤ 6; omega, (unhide HK).trans ((keysF_step (acc := acc) (by rw [unhide dr]; simp)).trans ((if_neg (by rw [unhide ST]; intro q_; rcases q_ with q_ | q_; exact absurd (show (2 : Nat) = 0 from q_) (by decide); exact h6_ q_)).trans (by rw [unhide ST, List.drop_drop]))), unhide N0, Nat.le_trans d2 (by have q1_ := (unhide BB).size; have sz101_ := unhide sz101; have sz102_ := unhide sz102; have sz103_ := unhide sz103; have sz104_ := unhide sz104; omega), unhide BB⟩
                          case measure => simp [intOf]; omega
                  · have fw0 : (x == [115, 117, 98, 106, 101, 99, 116]) = false := by rw [beq_eq_false_iff_ne]; exact hw0
                    by_cases hw1 : x = teW
                    · as_aux_lemma =>
                        have fw1 : (x == [116, 101, 120, 116]) = true := by rw [hw1]; decide
                        have fw2 : (x == [117, 105, 100]) = false := by rw [hw1]; decide
                        have fw3 : (x == [109, 111, 100, 115, 101, 113]) = false := by rw [hw1]; decide
                        have hl2 : 2 < x.length := by rw [hw1]; decide
                        have q1 : decide (2 < x.length) = true := decide_eq_true hl2
                        have q2 : decide ((2 : Int) < (x.length : Int)) = true := decide_eq_true (by omega)
                        have q3 : (((⟨x.toArray⟩ : ByteArray).extract 0 2).toList == [117, 110]) = false := by rw [ex_take, beq_eq_false_iff_ne]; exact hu
                        have q4 : (2 : Int) ≤ (x.length : Int) := by omega
                        have q5 : 2 ≤ x.length := by omega
                        have HW := hide hw1
                        clear hw1
                        have Qf0 := (unhide Q).frozen 0
                        have Qf1 := (unhide Q).frozen 1
                        have Qf2 := (unhide Q).frozen 2
                        have Qe0 := (unhide Q).cell 0 rfl
                        have Qe1 := (unhide Q).cell 1 rfl
                        have Qe2 := (unhide Q).cell 2 rfl
                        have F_ := hide (fill3 (unhide Q) (.int .i64 4) (.int .i64 0) (.string ⟨mw.toArray⟩))
                        obtain ⟨wtbnwnk13, hU⟩ : ∃ U, U = (((wtb2.setCell ⟨wo.heap.size, 0, none⟩ (.int .i64 4)).setCell ⟨wo.heap.size, 1, none⟩ (.int .i64 0)).setCell ⟨wo.heap.size, 2, none⟩ (.string ⟨mw.toArray⟩)) := ⟨_, rfl⟩
                        have GU_ : wtb2.grownBy wtbnwnk13 (some (wo.heap.size)) := by rw [hU]; exact g_store (g_store (g_store (g_self _ _) _) _) _
                        have F := unhide F_
                        rw [← hU] at F
                        have EU := hU.symm
                        clear hU F_
                        have Q_ := hide F.obj
                        have OU_ : Hid (OwnKy d wtbnwnk13 (.slice au m cu) (acc)) := g_aside (unhide OU) GU_ (fun q h1 h2 => by have q1_ := unhide NSU q h2; have q2_ := Option.some.inj h1; omega)
                        have N0_ : Hid (OwnKy w.heap.size wtbnwnk13 (.slice (some ⟨w.heap.size, 0, none⟩) 0 0) ([])) := g_aside (unhide N0) GU_ (fun q h1 h2 => by have q1_ := Option.some.inj h1; have q2_ : w.heap.size = q := Option.some.inj h2; omega)
                        have BB_ : Hid (Below w.heap.size w wtbnwnk13) := F.below loQ (unhide BB)
                        have sz103 : Hid (wtb2.heap.size ≤ wtbnwnk13.heap.size) := by show _ ≤ _; rw [F.size]; exact Nat.le_refl _
                        clear Q
                        have Q := Q_
                        clear Q_
                        clear OU
                        have OU := OU_
                        clear OU_
                        clear N0
                        have N0 := N0_
                        clear N0_
                        clear BB
                        have BB := BB_
                        clear BB_
                        clear F GU_
                        have Qf9_4 := (unhide Q).frozen 0
                        have Qe9_4 := (unhide Q).cell 0 rfl
                        obtain ⟨wtbnwnk14, hU⟩ : ∃ U, U = wtbnwnk13.setCell ⟨wo.heap.size, 0, none⟩ (.int .i64 5) := ⟨_, rfl⟩
                        have GU_ : wtbnwnk13.grownBy wtbnwnk14 (some (wo.heap.size)) := by rw [hU]; exact g_store (g_self _ _) _
                        have Q_ := hide ((unhide Q).set 0 (.int .i64 5))
                        rw [← hU] at Q_
                        have OU_ : Hid (OwnKy d wtbnwnk14 (.slice au m cu) (acc)) := g_aside (unhide OU) GU_ (fun q h1 h2 => by have q1_ := unhide NSU q h2; have q2_ := Option.some.inj h1; omega)
                        have N0_ : Hid (OwnKy w.heap.size wtbnwnk14 (.slice (some ⟨w.heap.size, 0, none⟩) 0 0) ([])) := g_aside (unhide N0) GU_ (fun q h1 h2 => by have q1_ := Option.some.inj h1; have q2_ : w.heap.size = q := Option.some.inj h2; omega)
                        have BB_ := hide ((unhide BB).setCell (p := ⟨wo.heap.size, 0, none⟩) (show w.heap.size ≤ wo.heap.size from loQ) (.int .i64 5))
                        rw [← hU] at BB_
                        have sz104 : Hid (wtbnwnk13.heap.size ≤ wtbnwnk14.heap.size) := by show _ ≤ _; rw [hU]; simp
                        have EU104 := hU.symm
                        clear hU GU_
                        clear Q
                        have Q := Q_
                        clear Q_
                        clear OU
                        have OU := OU_
                        clear OU_
                        clear N0
                        have N0 := N0_
                        clear N0_
                        clear BB
                        have BB := BB_
                        clear BB_
                        obtain ⟨bl, hbl⟩ : ∃ z, z = inI mw.length 1 20 := ⟨_, rfl⟩
                        have HBL := hide hbl
                        clear hbl
                        go_wp2_with fail
                        clear Qf0 Qf1 Qf2 Qe0 Qe1 Qe2 Qf9_4 Qe9_4 EU EU104
                        refine (l01InK_any (mw.length : Int) _).mono ?_
                        rintro e wtbnwnk15 ⟨rfl, hb⟩
                        subst wtbnwnk15
                        rw [← unhide HBL]
                        cases bl
                        · go_wp2
                          go_returns
                          have q_ := (unhide HK).trans ((keysF_step (acc := acc) (by rw [unhide dr]; simp)).trans (if_pos (by left; rw [unhide DR, step_d (by rw [unhide HW]; decide +kernel) (by rw [unhide HW]; unfold withP; rw [if_neg (by decide), if_pos rfl]; exact (unhide HBL).symm)])))
                          rw [kyV_none l q_]
                          exact ⟨_, rfl, unhide N0, unhide BB⟩
                        · have e3 : decide (n ≤ k + 1) = false := decide_eq_false (by omega)
                          have e4 : decide ((n : Int) ≤ (k : Int) + 1) = false := decide_eq_false (by omega)
                          by_cases h6 : m = 6
                          · have f6 : decide (6 ≤ m) = true := decide_eq_true (by omega)
                            have f7 : decide ((6 : Int) ≤ (m : Int)) = true := decide_eq_true (by omega)
                            have h6_ : acc.length = 6 := by have := unhide HM; omega
                            have Qc0_1 := (unhide Q).cell 0 rfl
                            have Qc1_1 := (unhide Q).cell 1 rfl
                            have Qc2_1 := (unhide Q).cell 2 rfl
                            go_wp2
                            go_returns
                            have q_ := (unhide HK).trans ((keysF_step (acc := acc) (by rw [unhide dr]; simp)).trans (if_pos (by exact .inr h6_)))
                            rw [kyV_none l q_]
                            exact ⟨_, rfl, unhide N0, unhide BB⟩
                          · have f6 : decide (6 ≤ m) = false := decide_eq_false (by omega)
                            have f7 : decide ((6 : Int) ≤ (m : Int)) = false := decide_eq_false (by omega)
                            have h6_ : acc.length ≠ 6 := by have := unhide HM; omega
                            have Qc0_1 := (unhide Q).cell 0 rfl
                            have Qc1_1 := (unhide Q).cell 1 rfl
                            have Qc2_1 := (unhide Q).cell 2 rfl
                            have lw6 := (unhide BB).size
                            go_wp2_with (at_builtin; refine wpList_append_own _ rfl _ _ 24 rfl d 33 iY _ 3 32 Tryz.underlying24 hY hY0 hY1 hY2 rfl (by decide) _ _ _ rfl (World.ownsRow.alloc (unhide OU) _) ⟨wtbnwnk14.heap.size, 0, none⟩ 1 1 (kyC ⟨5, 0, ⟨mw.toArray⟩⟩) rfl rfl (newsC _ _) ?c2 ?c3 ?c4 ?c5 ?_)
                            clear Qc0_1 Qc1_1 Qc2_1
                            case c2 => intro u hu; simp [kyC] at hu; (try rcases hu with rfl | rfl | rfl) <;> (try rcases hu with rfl | rfl) <;> (try subst hu) <;> rfl
                            case c3 => unfold maxLen; omega
                            case c4 => omega
                            case c5 => have q1_ := (unhide BB).size; have sz101_ := unhide sz101; have sz102_ := unhide sz102; have sz103_ := unhide sz103; have sz104_ := unhide sz104; simp; omega
                            intro vOU6 wtbnwnk1tv6 hown hgr _
                            have oa := World.ownsRow.alloc (unhide OU) (.cells ((kyC ⟨5, 0, ⟨mw.toArray⟩⟩) : List Value).toArray 33)
                            have Q_ := hide (((unhide Q).alloc (.cells ((kyC ⟨5, 0, ⟨mw.toArray⟩⟩) : List Value).toArray 33)).kept hgr (fun e => by have q1_ := unhide NSU _ e.symm; omega))
                            have N0_ : Hid (OwnKy w.heap.size wtbnwnk1tv6 (.slice (some ⟨w.heap.size, 0, none⟩) 0 0) ([])) := g_aside (World.ownsRow.alloc (unhide N0) (.cells ((kyC ⟨5, 0, ⟨mw.toArray⟩⟩) : List Value).toArray 33)) hgr (fun q h1 h2 => by have q1_ := (World.ownsRow.lt oa q h1).1; have q2_ : w.heap.size = q := Option.some.inj h2; omega)
                            have OU_ : Hid (OwnKy d wtbnwnk1tv6 vOU6 (acc ++ [⟨5, 0, ⟨mw.toArray⟩⟩])) := by exact OwnKy.snoc hown
                            have BB_ : Hid (Below w.heap.size w wtbnwnk1tv6) := ((unhide BB).alloc (unhide BB).size _).grown hgr (by have q1_ := (unhide BB).size; simp; omega) (fun b hb => by have q2_ := (World.ownsRow.lt (unhide OU) b hb).1; have q1_ := (unhide BB).size; have sz101_ := unhide sz101; have sz102_ := unhide sz102; have sz103_ := unhide sz103; have sz104_ := unhide sz104; omega)
                            have sz105 : Hid (wtbnwnk14.heap.size ≤ wtbnwnk1tv6.heap.size) := by have q3_ := hgr.size; simp at q3_; show _ ≤ _; omega
                            clear Q
                            have Q := Q_
                            clear Q_
                            clear OU
                            have OU := OU_
                            clear OU_
                            clear N0
                            have N0 := N0_
                            clear N0_
                            clear BB
                            have BB := BB_
                            clear BB_
                            clear hown hgr oa lw6
                            clear f6 f7
                            have ST : Hid (stepP (l.drop k) = (⟨5, 0, ⟨mw.toArray⟩⟩, 2)) := by show _ = _; rw [unhide DR]; rw [step_c (by rw [unhide HW]; decide +kernel) (by rw [unhide HW]; unfold withP; rw [if_neg (by decide), if_pos rfl]; exact (unhide HBL).symm)]; rw [unhide HW]; unfold withP; rw [if_neg (by decide), if_pos rfl]
                            go_wp2
                            go_roundw
                            case rel => rw [unhide HREL]; exact ⟨k + 2, acc ++ [⟨5, 0, ⟨mw.toArray⟩⟩], by rw [← unhide HN]; omega, by go_num, unhide OU, by rw [List.length_append, ← unhide HM]; show m + 1 ≤ 6; omega, (unhide HK).trans ((keysF_step (acc := acc) (by rw [unhide dr]; simp)).trans ((if_neg (by rw [unhide ST]; intro q_; rcases q_ with q_ | q_; exact absurd (show (2 : Nat) = 0 from q_) (by decide); exact h6_ q_)).trans (by rw [unhide ST, List.drop_drop]))), unhide N0, Nat.le_trans d2 (by have q1_ := (unhide BB).size; have sz101_ := unhide sz101; have sz102_ := unhide sz102; have sz103_ := unhide sz103; have sz104_ := unhide sz104; have sz105_ := unhide sz105; omega), unhide BB⟩
                            case measure => simp [intOf]; omega
                    · have fw1 : (x == [116, 101, 120, 116]) = false := by rw [beq_eq_false_iff_ne]; exact hw1
                      by_cases hw2 : x = uiW
                      · as_aux_lemma =>
                          have fw2 : (x == [117, 105, 100]) = true := by rw [hw2]; decide
                          have fw3 : (x == [109, 111, 100, 115, 101, 113]) = false := by rw [hw2]; decide
                          have hl2 : 2 < x.length := by rw [hw2]; decide
                          have q1 : decide (2 < x.length) = true := decide_eq_true hl2
                          have q2 : decide ((2 : Int) < (x.length : Int)) = true := decide_eq_true (by omega)
                          have q3 : (((⟨x.toArray⟩ : ByteArray).extract 0 2).toList == [117, 110]) = false := by rw [ex_take, beq_eq_false_iff_ne]; exact hu
                          have q4 : (2 : Int) ≤ (x.length : Int) := by omega
                          have q5 : 2 ≤ x.length := by omega
                          have HW := hide hw2
                          clear hw2
                          have Qf0 := (unhide Q).frozen 0
                          have Qf1 := (unhide Q).frozen 1
                          have Qf2 := (unhide Q).frozen 2
                          have Qe0 := (unhide Q).cell 0 rfl
                          have Qe1 := (unhide Q).cell 1 rfl
                          have Qe2 := (unhide Q).cell 2 rfl
                          have F_ := hide (fill3 (unhide Q) (.int .i64 6) (.int .i64 0) (.string ⟨mw.toArray⟩))
                          obtain ⟨wtbnwnnk23, hU⟩ : ∃ U, U = (((wtb2.setCell ⟨wo.heap.size, 0, none⟩ (.int .i64 6)).setCell ⟨wo.heap.size, 1, none⟩ (.int .i64 0)).setCell ⟨wo.heap.size, 2, none⟩ (.string ⟨mw.toArray⟩)) := ⟨_, rfl⟩
                          have GU_ : wtb2.grownBy wtbnwnnk23 (some (wo.heap.size)) := by rw [hU]; exact g_store (g_store (g_store (g_self _ _) _) _) _
                          have F := unhide F_
                          rw [← hU] at F
                          have EU := hU.symm
                          clear hU F_
                          have Q_ := hide F.obj
                          have OU_ : Hid (OwnKy d wtbnwnnk23 (.slice au m cu) (acc)) := g_aside (unhide OU) GU_ (fun q h1 h2 => by have q1_ := unhide NSU q h2; have q2_ := Option.some.inj h1; omega)
                          have N0_ : Hid (OwnKy w.heap.size wtbnwnnk23 (.slice (some ⟨w.heap.size, 0, none⟩) 0 0) ([])) := g_aside (unhide N0) GU_ (fun q h1 h2 => by have q1_ := Option.some.inj h1; have q2_ : w.heap.size = q := Option.some.inj h2; omega)
                          have BB_ : Hid (Below w.heap.size w wtbnwnnk23) := F.below loQ (unhide BB)
                          have sz103 : Hid (wtb2.heap.size ≤ wtbnwnnk23.heap.size) := by show _ ≤ _; rw [F.size]; exact Nat.le_refl _
                          clear Q
                          have Q := Q_
                          clear Q_
                          clear OU
                          have OU := OU_
                          clear OU_
                          clear N0
                          have N0 := N0_
                          clear N0_
                          clear BB
                          have BB := BB_
                          clear BB_
                          clear F GU_
                          obtain ⟨bl, hbl⟩ : ∃ z, z = (readV mw 9999).2 := ⟨_, rfl⟩
                          have HBL := hide hbl
                          clear hbl
                          go_wp2_with fail
                          clear Qf0 Qf1 Qf2 Qe0 Qe1 Qe2 EU
                          refine (sSet_any mw _ ms).mono ?_
                          rintro e wtbnwnnk24 ⟨vS, rfl, hb⟩
                          have Q_ := hide ((unhide Q).ups hb)
                          clear Q
                          have Q := Q_
                          clear Q_
                          have OU_ := hide ((unhide OU).up hb)
                          clear OU
                          have OU := OU_
                          clear OU_
                          have N0_ := hide ((unhide N0).up hb)
                          clear N0
                          have N0 := N0_
                          clear N0_
                          have sz104 := hide (hb.size)
                          have BB_ := hide (below_y (unhide BB) hb)
                          clear BB
                          have BB := BB_
                          clear BB_
                          clear hb
                          rw [← unhide HBL]
                          cases bl
                          · go_wp2
                            go_returns
                            have q_ := (unhide HK).trans ((keysF_step (acc := acc) (by rw [unhide dr]; simp)).trans (if_pos (by left; rw [unhide DR, step_d (by rw [unhide HW]; decide +kernel) (by rw [unhide HW]; unfold withP; rw [if_neg (by decide), if_neg (by decide), if_pos rfl]; exact (unhide HBL).symm)])))
                            rw [kyV_none l q_]
                            exact ⟨_, rfl, unhide N0, unhide BB⟩
                          · have e3 : decide (n ≤ k + 1) = false := decide_eq_false (by omega)
                            have e4 : decide ((n : Int) ≤ (k : Int) + 1) = false := decide_eq_false (by omega)
                            by_cases h6 : m = 6
                            · have f6 : decide (6 ≤ m) = true := decide_eq_true (by omega)
                              have f7 : decide ((6 : Int) ≤ (m : Int)) = true := decide_eq_true (by omega)
                              have h6_ : acc.length = 6 := by have := unhide HM; omega
                              have Qc0_1 := (unhide Q).cell 0 rfl
                              have Qc1_1 := (unhide Q).cell 1 rfl
                              have Qc2_1 := (unhide Q).cell 2 rfl
                              go_wp2
                              go_returns
                              have q_ := (unhide HK).trans ((keysF_step (acc := acc) (by rw [unhide dr]; simp)).trans (if_pos (by exact .inr h6_)))
                              rw [kyV_none l q_]
                              exact ⟨_, rfl, unhide N0, unhide BB⟩
                            · have f6 : decide (6 ≤ m) = false := decide_eq_false (by omega)
                              have f7 : decide ((6 : Int) ≤ (m : Int)) = false := decide_eq_false (by omega)
                              have h6_ : acc.length ≠ 6 := by have := unhide HM; omega
                              have Qc0_1 := (unhide Q).cell 0 rfl
                              have Qc1_1 := (unhide Q).cell 1 rfl
                              have Qc2_1 := (unhide Q).cell 2 rfl
                              have lw5 := (unhide BB).size
                              go_wp2_with (at_builtin; refine wpList_append_own _ rfl _ _ 24 rfl d 33 iY _ 3 32 Tryz.underlying24 hY hY0 hY1 hY2 rfl (by decide) _ _ _ rfl (World.ownsRow.alloc (unhide OU) _) ⟨wtbnwnnk24.heap.size, 0, none⟩ 1 1 (kyC ⟨6, 0, ⟨mw.toArray⟩⟩) rfl rfl (newsC _ _) ?c2 ?c3 ?c4 ?c5 ?_)
                              clear Qc0_1 Qc1_1 Qc2_1
                              case c2 => intro u hu; simp [kyC] at hu; (try rcases hu with rfl | rfl | rfl) <;> (try rcases hu with rfl | rfl) <;> (try subst hu) <;> rfl
                              case c3 => unfold maxLen; omega
                              case c4 => omega
                              case c5 => have q1_ := (unhide BB).size; have sz101_ := unhide sz101; have sz102_ := unhide sz102; have sz103_ := unhide sz103; have sz104_ := unhide sz104; simp; omega
                              intro vOU5 wtbnwnnk2tv5 hown hgr _
                              have oa := World.ownsRow.alloc (unhide OU) (.cells ((kyC ⟨6, 0, ⟨mw.toArray⟩⟩) : List Value).toArray 33)
                              have Q_ := hide (((unhide Q).alloc (.cells ((kyC ⟨6, 0, ⟨mw.toArray⟩⟩) : List Value).toArray 33)).kept hgr (fun e => by have q1_ := unhide NSU _ e.symm; omega))
                              have N0_ : Hid (OwnKy w.heap.size wtbnwnnk2tv5 (.slice (some ⟨w.heap.size, 0, none⟩) 0 0) ([])) := g_aside (World.ownsRow.alloc (unhide N0) (.cells ((kyC ⟨6, 0, ⟨mw.toArray⟩⟩) : List Value).toArray 33)) hgr (fun q h1 h2 => by have q1_ := (World.ownsRow.lt oa q h1).1; have q2_ : w.heap.size = q := Option.some.inj h2; omega)
                              have OU_ : Hid (OwnKy d wtbnwnnk2tv5 vOU5 (acc ++ [⟨6, 0, ⟨mw.toArray⟩⟩])) := by exact OwnKy.snoc hown
                              have BB_ : Hid (Below w.heap.size w wtbnwnnk2tv5) := ((unhide BB).alloc (unhide BB).size _).grown hgr (by have q1_ := (unhide BB).size; simp; omega) (fun b hb => by have q2_ := (World.ownsRow.lt (unhide OU) b hb).1; have q1_ := (unhide BB).size; have sz101_ := unhide sz101; have sz102_ := unhide sz102; have sz103_ := unhide sz103; have sz104_ := unhide sz104; omega)
                              have sz105 : Hid (wtbnwnnk24.heap.size ≤ wtbnwnnk2tv5.heap.size) := by have q3_ := hgr.size; simp at q3_; show _ ≤ _; omega
                              clear Q
                              have Q := Q_
                              clear Q_
                              clear OU
                              have OU := OU_
                              clear OU_
                              clear N0
                              have N0 := N0_
                              clear N0_
                              clear BB
                              have BB := BB_
                              clear BB_
                              clear hown hgr oa lw5
                              clear f6 f7
                              have ST : Hid (stepP (l.drop k) = (⟨6, 0, ⟨mw.toArray⟩⟩, 2)) := by show _ = _; rw [unhide DR]; rw [step_c (by rw [unhide HW]; decide +kernel) (by rw [unhide HW]; unfold withP; rw [if_neg (by decide), if_neg (by decide), if_pos rfl]; exact (unhide HBL).symm)]; rw [unhide HW]; unfold withP; rw [if_neg (by decide), if_neg (by decide), if_pos rfl]
                              go_wp2
                              go_roundw
                              case rel => rw [unhide HREL]; exact ⟨k + 2, acc ++ [⟨6, 0, ⟨mw.toArray⟩⟩], by rw [← unhide HN]; omega, by go_num, unhide OU, by rw [List.length_append, ← unhide HM]; show m + 1 ≤ 6; omega, (unhide HK).trans ((keysF_step (acc := acc) (by rw [unhide dr]; simp)).trans ((if_neg (by rw [unhide ST]; intro q_; rcases q_ with q_ | q_; exact absurd (show (2 : Nat) = 0 from q_) (by decide); exact h6_ q_)).trans (by rw [unhide ST, List.drop_drop]))), unhide N0, Nat.le_trans d2 (by have q1_ := (unhide BB).size; have sz101_ := unhide sz101; have sz102_ := unhide sz102; have sz103_ := unhide sz103; have sz104_ := unhide sz104; have sz105_ := unhide sz105; omega), unhide BB⟩
                              case measure => simp [intOf]; omega
                      · have fw2 : (x == [117, 105, 100]) = false := by rw [beq_eq_false_iff_ne]; exact hw2
                        by_cases hw3 : x = moW
                        · as_aux_lemma =>
                            have fw3 : (x == [109, 111, 100, 115, 101, 113]) = true := by rw [hw3]; decide
                            have hl2 : 2 < x.length := by rw [hw3]; decide
                            have q1 : decide (2 < x.length) = true := decide_eq_true hl2
                            have q2 : decide ((2 : Int) < (x.length : Int)) = true := decide_eq_true (by omega)
                            have q3 : (((⟨x.toArray⟩ : ByteArray).extract 0 2).toList == [117, 110]) = false := by rw [ex_take, beq_eq_false_iff_ne]; exact hu
                            have q4 : (2 : Int) ≤ (x.length : Int) := by omega
                            have q5 : 2 ≤ x.length := by omega
                            have HW := hide hw3
                            clear hw3
                            obtain ⟨⟨dn, db⟩, hd_⟩ : ∃ z, z = decP mw := ⟨_, rfl⟩
                            have HD := hide hd_
                            clear hd_
                            go_wp2_with fail
                            refine (sDec_any mw _ ms).mono ?_
                            rintro e wtbnwnnnk33 ⟨rfl, hb⟩
                            have Q_ := hide ((unhide Q).ups hb)
                            clear Q
                            have Q := Q_
                            clear Q_
                            have OU_ := hide ((unhide OU).up hb)
                            clear OU
                            have OU := OU_
                            clear OU_
                            have N0_ := hide ((unhide N0).up hb)
                            clear N0
                            have N0 := N0_
                            clear N0_
                            have sz103 := hide (hb.size)
                            have BB_ := hide (below_y (unhide BB) hb)
                            clear BB
                            have BB := BB_
                            clear BB_
                            clear hb
                            rw [← unhide HD]
                            have Qf0 := (unhide Q).frozen 0
                            have Qf1 := (unhide Q).frozen 1
                            have Qf2 := (unhide Q).frozen 2
                            have Qe0 := (unhide Q).cell 0 rfl
                            have Qe1 := (unhide Q).cell 1 rfl
                            have Qe2 := (unhide Q).cell 2 rfl
                            have F_ := hide (fill3 (unhide Q) (.int .i64 7) (.int .i64 dn) (.string ⟨#[]⟩))
                            obtain ⟨wtbnwnnnk34, hU⟩ : ∃ U, U = (((wtbnwnnnk33.setCell ⟨wo.heap.size, 0, none⟩ (.int .i64 7)).setCell ⟨wo.heap.size, 1, none⟩ (.int .i64 dn)).setCell ⟨wo.heap.size, 2, none⟩ (.string ⟨#[]⟩)) := ⟨_, rfl⟩
                            have GU_ : wtbnwnnnk33.grownBy wtbnwnnnk34 (some (wo.heap.size)) := by rw [hU]; exact g_store (g_store (g_store (g_self _ _) _) _) _
                            have F := unhide F_
                            rw [← hU] at F
                            have EU := hU.symm
                            clear hU F_
                            have Q_ := hide F.obj
                            have OU_ : Hid (OwnKy d wtbnwnnnk34 (.slice au m cu) (acc)) := g_aside (unhide OU) GU_ (fun q h1 h2 => by have q1_ := unhide NSU q h2; have q2_ := Option.some.inj h1; omega)
                            have N0_ : Hid (OwnKy w.heap.size wtbnwnnnk34 (.slice (some ⟨w.heap.size, 0, none⟩) 0 0) ([])) := g_aside (unhide N0) GU_ (fun q h1 h2 => by have q1_ := Option.some.inj h1; have q2_ : w.heap.size = q := Option.some.inj h2; omega)
                            have BB_ : Hid (Below w.heap.size w wtbnwnnnk34) := F.below loQ (unhide BB)
                            have sz104 : Hid (wtbnwnnnk33.heap.size ≤ wtbnwnnnk34.heap.size) := by show _ ≤ _; rw [F.size]; exact Nat.le_refl _
                            clear Q
                            have Q := Q_
                            clear Q_
                            clear OU
                            have OU := OU_
                            clear OU_
                            clear N0
                            have N0 := N0_
                            clear N0_
                            clear BB
                            have BB := BB_
                            clear BB_
                            clear F GU_
                            cases db
                            · go_wp2
                              go_returns
                              have q_ := (unhide HK).trans ((keysF_step (acc := acc) (by rw [unhide dr]; simp)).trans (if_pos (by left; rw [unhide DR, step_d (by rw [unhide HW]; decide +kernel) (by rw [unhide HW]; unfold withP; rw [if_neg (by decide), if_neg (by decide), if_neg (by decide), if_pos rfl]; rw [← unhide HD]; rfl)])))
                              rw [kyV_none l q_]
                              exact ⟨_, rfl, unhide N0, unhide BB⟩
                            · by_cases hb1 : dn ≤ 100000
                              · have b1 : decide (dn ≤ 100000) = true := decide_eq_true hb1
                                have e3 : decide (n ≤ k + 1) = false := decide_eq_false (by omega)
                                have e4 : decide ((n : Int) ≤ (k : Int) + 1) = false := decide_eq_false (by omega)
                                by_cases h6 : m = 6
                                · have f6 : decide (6 ≤ m) = true := decide_eq_true (by omega)
                                  have f7 : decide ((6 : Int) ≤ (m : Int)) = true := decide_eq_true (by omega)
                                  have h6_ : acc.length = 6 := by have := unhide HM; omega
                                  have Qc0_1 := (unhide Q).cell 0 rfl
                                  have Qc1_1 := (unhide Q).cell 1 rfl
                                  have Qc2_1 := (unhide Q).cell 2 rfl
                                  go_wp2
                                  go_returns
                                  have q_ := (unhide HK).trans ((keysF_step (acc := acc) (by rw [unhide dr]; simp)).trans (if_pos (by exact .inr h6_)))
                                  rw [kyV_none l q_]
                                  exact ⟨_, rfl, unhide N0, unhide BB⟩
                                · have f6 : decide (6 ≤ m) = false := decide_eq_false (by omega)
                                  have f7 : decide ((6 : Int) ≤ (m : Int)) = false := decide_eq_false (by omega)
                                  have h6_ : acc.length ≠ 6 := by have := unhide HM; omega
                                  have Qc0_1 := (unhide Q).cell 0 rfl
                                  have Qc1_1 := (unhide Q).cell 1 rfl
                                  have Qc2_1 := (unhide Q).cell 2 rfl
                                  have lw5 := (unhide BB).size
                                  go_wp2_with (at_builtin; refine wpList_append_own _ rfl _ _ 24 rfl d 33 iY _ 3 32 Tryz.underlying24 hY hY0 hY1 hY2 rfl (by decide) _ _ _ rfl (World.ownsRow.alloc (unhide OU) _) ⟨wtbnwnnnk34.heap.size, 0, none⟩ 1 1 (kyC ⟨7, dn, ⟨#[]⟩⟩) rfl rfl (newsC _ _) ?c2 ?c3 ?c4 ?c5 ?_)
                                  clear Qf0 Qf1 Qf2 Qe0 Qe1 Qe2 Qc0_1 Qc1_1 Qc2_1 EU
                                  case c2 => intro u hu; simp [kyC] at hu; (try rcases hu with rfl | rfl | rfl) <;> (try rcases hu with rfl | rfl) <;> (try subst hu) <;> rfl
                                  case c3 => unfold maxLen; omega
                                  case c4 => omega
                                  case c5 => have q1_ := (unhide BB).size; have sz101_ := unhide sz101; have sz102_ := unhide sz102; have sz103_ := unhide sz103; have sz104_ := unhide sz104; simp; omega
                                  intro vOU5 wtbnwnnnk3eyv5 hown hgr _
                                  have oa := World.ownsRow.alloc (unhide OU) (.cells ((kyC ⟨7, dn, ⟨#[]⟩⟩) : List Value).toArray 33)
                                  have Q_ := hide (((unhide Q).alloc (.cells ((kyC ⟨7, dn, ⟨#[]⟩⟩) : List Value).toArray 33)).kept hgr (fun e => by have q1_ := unhide NSU _ e.symm; omega))
                                  have N0_ : Hid (OwnKy w.heap.size wtbnwnnnk3eyv5 (.slice (some ⟨w.heap.size, 0, none⟩) 0 0) ([])) := g_aside (World.ownsRow.alloc (unhide N0) (.cells ((kyC ⟨7, dn, ⟨#[]⟩⟩) : List Value).toArray 33)) hgr (fun q h1 h2 => by have q1_ := (World.ownsRow.lt oa q h1).1; have q2_ : w.heap.size = q := Option.some.inj h2; omega)
                                  have OU_ : Hid (OwnKy d wtbnwnnnk3eyv5 vOU5 (acc ++ [⟨7, dn, ⟨#[]⟩⟩])) := by exact OwnKy.snoc hown
                                  have BB_ : Hid (Below w.heap.size w wtbnwnnnk3eyv5) := ((unhide BB).alloc (unhide BB).size _).grown hgr (by have q1_ := (unhide BB).size; simp; omega) (fun b hb => by have q2_ := (World.ownsRow.lt (unhide OU) b hb).1; have q1_ := (unhide BB).size; have sz101_ := unhide sz101; have sz102_ := unhide sz102; have sz103_ := unhide sz103; have sz104_ := unhide sz104; omega)
                                  have sz105 : Hid (wtbnwnnnk34.heap.size ≤ wtbnwnnnk3eyv5.heap.size) := by have q3_ := hgr.size; simp at q3_; show _ ≤ _; omega
                                  clear Q
                                  have Q := Q_
                                  clear Q_
                                  clear OU
                                  have OU := OU_
                                  clear OU_
                                  clear N0
                                  have N0 := N0_
                                  clear N0_
                                  clear BB
                                  have BB := BB_
                                  clear BB_
                                  clear hown hgr oa lw5
                                  clear f6 f7
                                  have ST : Hid (stepP (l.drop k) = (⟨7, dn, ⟨#[]⟩⟩, 2)) := by show _ = _; rw [unhide DR]; rw [step_c (by rw [unhide HW]; decide +kernel) (by rw [unhide HW]; unfold withP; rw [if_neg (by decide), if_neg (by decide), if_neg (by decide), if_pos rfl]; rw [← unhide HD]; show (true && decide (dn ≤ 100000)) = true; rw [b1]; rfl)]; rw [unhide HW]; unfold withP; rw [if_neg (by decide), if_neg (by decide), if_neg (by decide), if_pos rfl, ← unhide HD]
                                  go_wp2
                                  go_roundw
                                  case rel => rw [unhide HREL]; exact ⟨k + 2, acc ++ [⟨7, dn, ⟨#[]⟩⟩], by rw [← unhide HN]; omega, by go_num, unhide OU, by rw [List.length_append, ← unhide HM]; show m + 1 ≤ 6; omega, (unhide HK).trans ((keysF_step (acc := acc) (by rw [unhide dr]; simp)).trans ((if_neg (by rw [unhide ST]; intro q_; rcases q_ with q_ | q_; exact absurd (show (2 : Nat) = 0 from q_) (by decide); exact h6_ q_)).trans (by rw [unhide ST, List.drop_drop]))), unhide N0, Nat.le_trans d2 (by have q1_ := (unhide BB).size; have sz101_ := unhide sz101; have sz102_ := unhide sz102; have sz103_ := unhide sz103; have sz104_ := unhide sz104; have sz105_ := unhide sz105; omega), unhide BB⟩
                                  case measure => simp [intOf]; omega
                              · have b1 : decide (dn ≤ 100000) = false := decide_eq_false hb1
                                go_wp2
                                go_returns
                                have q_ := (unhide HK).trans ((keysF_step (acc := acc) (by rw [unhide dr]; simp)).trans (if_pos (by left; rw [unhide DR, step_d (by rw [unhide HW]; decide +kernel) (by rw [unhide HW]; unfold withP; rw [if_neg (by decide), if_neg (by decide), if_neg (by decide), if_pos rfl]; rw [← unhide HD]; show (true && decide (dn ≤ 100000)) = false; rw [b1]; rfl)])))
                                rw [kyV_none l q_]
                                exact ⟨_, rfl, unhide N0, unhide BB⟩
                        · have fw3 : (x == [109, 111, 100, 115, 101, 113]) = false := by rw [beq_eq_false_iff_ne]; exact hw3
                          have wt9 : (withP x mw).2 = false := by unfold withP; rw [if_neg hw0, if_neg hw1, if_neg hw2, if_neg hw3]
                          have al9 : (aloneP x).2 = false := by rw [alone_no h1 hu]; show (!bitV x == 0) = false; rw [← unhide HBV]; rfl
                          have AL9 := hide al9
                          have WT9 := hide wt9
                          clear al9 wt9
                          by_cases hl2 : 2 < x.length
                          · have q1 : decide (2 < x.length) = true := decide_eq_true hl2
                            have q2 : decide ((2 : Int) < (x.length : Int)) = true := decide_eq_true (by omega)
                            have q3 : (((⟨x.toArray⟩ : ByteArray).extract 0 2).toList == [117, 110]) = false := by rw [ex_take, beq_eq_false_iff_ne]; exact hu
                            have q4 : (2 : Int) ≤ (x.length : Int) := by omega
                            have q5 : 2 ≤ x.length := by omega
                            go_wp2
                            go_returns
                            have q_ := (unhide HK).trans ((keysF_step (acc := acc) (by rw [unhide dr]; simp)).trans (if_pos (by left; rw [unhide DR, step_d (unhide AL9) (unhide WT9)])))
                            rw [kyV_none l q_]
                            exact ⟨_, rfl, unhide N0, unhide BB⟩
                          · have q1 : decide (2 < x.length) = false := decide_eq_false hl2
                            have q2 : decide ((2 : Int) < (x.length : Int)) = false := decide_eq_false (by omega)
                            go_wp2
                            go_returns
                            have q_ := (unhide HK).trans ((keysF_step (acc := acc) (by rw [unhide dr]; simp)).trans (if_pos (by left; rw [unhide DR, step_d (unhide AL9) (unhide WT9)])))
                            rw [kyV_none l q_]
                            exact ⟨_, rfl, unhide N0, unhide BB⟩
            · as_aux_lemma =>
                have hp : 0 < bv := by rw [unhide HBV]; exact bit_pos (by rw [← unhide HBV]; exact h2)
                have p1 : decide (0 < bv) = true := decide_eq_true hp
                have hun : ¬ x.take 2 = unW := fun e => h2 (by rw [unhide HBV]; exact un_bit e)
                go_wp2_with fail
                refine (sBit_any x _).mono ?_
                rintro e wtbf3 ⟨rfl, hb⟩
                rw [← unhide HBV]
                have Q_ := hide ((unhide Q).ups hb)
                clear Q
                have Q := Q_
                clear Q_
                have OU_ := hide ((unhide OU).up hb)
                clear OU
                have OU := OU_
                clear OU_
                have N0_ := hide ((unhide N0).up hb)
                clear N0
                have N0 := N0_
                clear N0_
                have sz103 := hide (hb.size)
                have BB_ := hide (below_y (unhide BB) hb)
                clear BB
                have BB := BB_
                clear BB_
                clear hb
                have Qf0 := (unhide Q).frozen 0
                have Qf1 := (unhide Q).frozen 1
                have Qf2 := (unhide Q).frozen 2
                have Qe0 := (unhide Q).cell 0 rfl
                have Qe1 := (unhide Q).cell 1 rfl
                have Qe2 := (unhide Q).cell 2 rfl
                have F_ := hide (fill3 (unhide Q) (.int .i64 2) (.int .i64 bv) (.string ⟨#[]⟩))
                obtain ⟨wtbf4, hU⟩ : ∃ U, U = (((wtbf3.setCell ⟨wo.heap.size, 0, none⟩ (.int .i64 2)).setCell ⟨wo.heap.size, 1, none⟩ (.int .i64 bv)).setCell ⟨wo.heap.size, 2, none⟩ (.string ⟨#[]⟩)) := ⟨_, rfl⟩
                have GU_ : wtbf3.grownBy wtbf4 (some (wo.heap.size)) := by rw [hU]; exact g_store (g_store (g_store (g_self _ _) _) _) _
                have F := unhide F_
                rw [← hU] at F
                have EU := hU.symm
                clear hU F_
                have Q_ := hide F.obj
                have OU_ : Hid (OwnKy d wtbf4 (.slice au m cu) (acc)) := g_aside (unhide OU) GU_ (fun q h1 h2 => by have q1_ := unhide NSU q h2; have q2_ := Option.some.inj h1; omega)
                have N0_ : Hid (OwnKy w.heap.size wtbf4 (.slice (some ⟨w.heap.size, 0, none⟩) 0 0) ([])) := g_aside (unhide N0) GU_ (fun q h1 h2 => by have q1_ := Option.some.inj h1; have q2_ : w.heap.size = q := Option.some.inj h2; omega)
                have BB_ : Hid (Below w.heap.size w wtbf4) := F.below loQ (unhide BB)
                have sz104 : Hid (wtbf3.heap.size ≤ wtbf4.heap.size) := by show _ ≤ _; rw [F.size]; exact Nat.le_refl _
                clear Q
                have Q := Q_
                clear Q_
                clear OU
                have OU := OU_
                clear OU_
                clear N0
                have N0 := N0_
                clear N0_
                clear BB
                have BB := BB_
                clear BB_
                clear F GU_
                have e3 : decide (n ≤ k) = false := decide_eq_false (by omega)
                have e4 : decide ((n : Int) ≤ (k : Int)) = false := decide_eq_false (by omega)
                by_cases h6 : m = 6
                · have f6 : decide (6 ≤ m) = true := decide_eq_true (by omega)
                  have f7 : decide ((6 : Int) ≤ (m : Int)) = true := decide_eq_true (by omega)
                  have h6_ : acc.length = 6 := by have := unhide HM; omega
                  have Qc0_1 := (unhide Q).cell 0 rfl
                  have Qc1_1 := (unhide Q).cell 1 rfl
                  have Qc2_1 := (unhide Q).cell 2 rfl
                  go_wp2
                  go_returns
                  have q_ := (unhide HK).trans ((keysF_step (acc := acc) (by rw [unhide dr]; simp)).trans (if_pos (by exact .inr h6_)))
                  rw [kyV_none l q_]
                  exact ⟨_, rfl, unhide N0, unhide BB⟩
                · have f6 : decide (6 ≤ m) = false := decide_eq_false (by omega)
                  have f7 : decide ((6 : Int) ≤ (m : Int)) = false := decide_eq_false (by omega)
                  have h6_ : acc.length ≠ 6 := by have := unhide HM; omega
                  have Qc0_1 := (unhide Q).cell 0 rfl
                  have Qc1_1 := (unhide Q).cell 1 rfl
                  have Qc2_1 := (unhide Q).cell 2 rfl
                  have lw5 := (unhide BB).size
                  go_wp2_with (at_builtin; refine wpList_append_own _ rfl _ _ 24 rfl d 33 iY _ 3 32 Tryz.underlying24 hY hY0 hY1 hY2 rfl (by decide) _ _ _ rfl (World.ownsRow.alloc (unhide OU) _) ⟨wtbf4.heap.size, 0, none⟩ 1 1 (kyC ⟨2, bv, ⟨#[]⟩⟩) rfl rfl (newsC _ _) ?c2 ?c3 ?c4 ?c5 ?_)
                  clear Qf0 Qf1 Qf2 Qe0 Qe1 Qe2 Qc0_1 Qc1_1 Qc2_1 EU
                  case c2 => intro u hu; simp [kyC] at hu; (try rcases hu with rfl | rfl | rfl) <;> (try rcases hu with rfl | rfl) <;> (try subst hu) <;> rfl
                  case c3 => unfold maxLen; omega
                  case c4 => omega
                  case c5 => have q1_ := (unhide BB).size; have sz101_ := unhide sz101; have sz102_ := unhide sz102; have sz103_ := unhide sz103; have sz104_ := unhide sz104; simp; omega
                  intro vOU5 wtbfv5 hown hgr _
                  have oa := World.ownsRow.alloc (unhide OU) (.cells ((kyC ⟨2, bv, ⟨#[]⟩⟩) : List Value).toArray 33)
                  have Q_ := hide (((unhide Q).alloc (.cells ((kyC ⟨2, bv, ⟨#[]⟩⟩) : List Value).toArray 33)).kept hgr (fun e => by have q1_ := unhide NSU _ e.symm; omega))
                  have N0_ : Hid (OwnKy w.heap.size wtbfv5 (.slice (some ⟨w.heap.size, 0, none⟩) 0 0) ([])) := g_aside (World.ownsRow.alloc (unhide N0) (.cells ((kyC ⟨2, bv, ⟨#[]⟩⟩) : List Value).toArray 33)) hgr (fun q h1 h2 => by have q1_ := (World.ownsRow.lt oa q h1).1; have q2_ : w.heap.size = q := Option.some.inj h2; omega)
                  have OU_ : Hid (OwnKy d wtbfv5 vOU5 (acc ++ [⟨2, bv, ⟨#[]⟩⟩])) := by exact OwnKy.snoc hown
                  have BB_ : Hid (Below w.heap.size w wtbfv5) := ((unhide BB).alloc (unhide BB).size _).grown hgr (by have q1_ := (unhide BB).size; simp; omega) (fun b hb => by have q2_ := (World.ownsRow.lt (unhide OU) b hb).1; have q1_ := (unhide BB).size; have sz101_ := unhide sz101; have sz102_ := unhide sz102; have sz103_ := unhide sz103; have sz104_ := unhide sz104; omega)
                  have sz105 : Hid (wtbf4.heap.size ≤ wtbfv5.heap.size) := by have q3_ := hgr.size; simp at q3_; show _ ≤ _; omega
                  clear Q
                  have Q := Q_
                  clear Q_
                  clear OU
                  have OU := OU_
                  clear OU_
                  clear N0
                  have N0 := N0_
                  clear N0_
                  clear BB
                  have BB := BB_
                  clear BB_
                  clear hown hgr oa lw5
                  clear f6 f7
                  have ST : Hid (stepP (l.drop k) = (⟨2, bv, ⟨#[]⟩⟩, 1)) := by show _ = _; rw [unhide DR]; rw [step_a (by rw [alone_no h1 hun, ← unhide HBV]; simp; exact h2), alone_no h1 hun, ← unhide HBV]
                  go_wp2
                  go_roundw
                  case rel => rw [unhide HREL]; exact ⟨k + 1, acc ++ [⟨2, bv, ⟨#[]⟩⟩], by rw [← unhide HN]; omega, by go_num, unhide OU, by rw [List.length_append, ← unhide HM]; show m + 1 ≤ 6; omega, (unhide HK).trans ((keysF_step (acc := acc) (by rw [unhide dr]; simp)).trans ((if_neg (by rw [unhide ST]; intro q_; rcases q_ with q_ | q_; exact absurd (show (1 : Nat) = 0 from q_) (by decide); exact h6_ q_)).trans (by rw [unhide ST, List.drop_drop]))), unhide N0, Nat.le_trans d2 (by have q1_ := (unhide BB).size; have sz101_ := unhide sz101; have sz102_ := unhide sz102; have sz103_ := unhide sz103; have sz104_ := unhide sz104; have sz105_ := unhide sz105; omega), unhide BB⟩
                  case measure => simp [intOf]; omega
      · as_aux_lemma =>
          have g1 : decide (k + 1 < n) = false := decide_eq_false (by omega)
          have g2 : decide ((k : Int) + 1 < (n : Int)) = false := decide_eq_false (by omega)
          have ms : ([] : List UInt8).length ≤ 1048576 := by decide
          have DR : Hid (l.drop k = [x]) := by show _ = _; rw [unhide dr, List.drop_eq_nil_of_le (by rw [← unhide HN]; omega)]
          by_cases h1 : x = alW
          · subst h1
            have NSU : Hid (∀ q, (Value.slice au m cu).ownBlock = some q → q < wo.heap.size) := fun q e => (World.ownsRow.lt (unhide OU) q e).2
            have NSN : w.heap.size < wo.heap.size := by omega
            obtain ⟨wsa1, hQ⟩ : ∃ X, X = wo.alloc (.cells ([.int .i64 1, .int .i64 0, .string ⟨#[]⟩] : List Value).toArray 33) := ⟨_, rfl⟩
            have Qx : HasObj wsa1 wo.heap.size 33 [.int .i64 1, .int .i64 0, .string ⟨#[]⟩] := by rw [hQ]; exact HasObj.new _ _ _
            have hbn : Below wo.heap.size wo wsa1 := by rw [hQ]; exact (Below.refl _ _).alloc (Nat.le_refl _) _
            have loQ : w.heap.size ≤ wo.heap.size := (unhide BB).size
            have EQ := hQ.symm
            clear hQ
            have OU_ := hide ((unhide OU).up hbn)
            clear OU
            have OU := OU_
            clear OU_
            have N0_ := hide ((unhide N0).up hbn)
            clear N0
            have N0 := N0_
            clear N0_
            have sz101 := hide (hbn.size)
            have BB_ := hide (below_y (unhide BB) hbn)
            clear BB
            have BB := BB_
            clear BB_
            clear hbn
            have Q := hide Qx
            clear Qx
            have e3 : decide (n ≤ k) = false := decide_eq_false (by omega)
            have e4 : decide ((n : Int) ≤ (k : Int)) = false := decide_eq_false (by omega)
            by_cases h6 : m = 6
            · have f6 : decide (6 ≤ m) = true := decide_eq_true (by omega)
              have f7 : decide ((6 : Int) ≤ (m : Int)) = true := decide_eq_true (by omega)
              have h6_ : acc.length = 6 := by have := unhide HM; omega
              have Qc0_1 := (unhide Q).cell 0 rfl
              have Qc1_1 := (unhide Q).cell 1 rfl
              have Qc2_1 := (unhide Q).cell 2 rfl
              go_wp2
              go_returns
              have q_ := (unhide HK).trans ((keysF_step (acc := acc) (by rw [unhide dr]; simp)).trans (if_pos (by exact .inr h6_)))
              rw [kyV_none l q_]
              exact ⟨_, rfl, unhide N0, unhide BB⟩
            · have f6 : decide (6 ≤ m) = false := decide_eq_false (by omega)
              have f7 : decide ((6 : Int) ≤ (m : Int)) = false := decide_eq_false (by omega)
              have h6_ : acc.length ≠ 6 := by have := unhide HM; omega
              have Qc0_1 := (unhide Q).cell 0 rfl
              have Qc1_1 := (unhide Q).cell 1 rfl
              have Qc2_1 := (unhide Q).cell 2 rfl
              have lw2 := (unhide BB).size
              go_wp2_with (at_builtin; refine wpList_append_own _ rfl _ _ 24 rfl d 33 iY _ 3 32 Tryz.underlying24 hY hY0 hY1 hY2 rfl (by decide) _ _ _ rfl (World.ownsRow.alloc (unhide OU) _) ⟨wsa1.heap.size, 0, none⟩ 1 1 (kyC ⟨1, 0, ⟨#[]⟩⟩) rfl rfl (newsC _ _) ?c2 ?c3 ?c4 ?c5 ?_)
              clear Qc0_1 Qc1_1 Qc2_1 EQ
              case c2 => intro u hu; simp [kyC] at hu; (try rcases hu with rfl | rfl | rfl) <;> (try rcases hu with rfl | rfl) <;> (try subst hu) <;> rfl
              case c3 => unfold maxLen; omega
              case c4 => omega
              case c5 => have q1_ := (unhide BB).size; have sz101_ := unhide sz101; simp; omega
              intro vOU2 wsav2 hown hgr _
              have oa := World.ownsRow.alloc (unhide OU) (.cells ((kyC ⟨1, 0, ⟨#[]⟩⟩) : List Value).toArray 33)
              have Q_ := hide (((unhide Q).alloc (.cells ((kyC ⟨1, 0, ⟨#[]⟩⟩) : List Value).toArray 33)).kept hgr (fun e => by have q1_ := unhide NSU _ e.symm; omega))
              have N0_ : Hid (OwnKy w.heap.size wsav2 (.slice (some ⟨w.heap.size, 0, none⟩) 0 0) ([])) := g_aside (World.ownsRow.alloc (unhide N0) (.cells ((kyC ⟨1, 0, ⟨#[]⟩⟩) : List Value).toArray 33)) hgr (fun q h1 h2 => by have q1_ := (World.ownsRow.lt oa q h1).1; have q2_ : w.heap.size = q := Option.some.inj h2; omega)
              have OU_ : Hid (OwnKy d wsav2 vOU2 (acc ++ [⟨1, 0, ⟨#[]⟩⟩])) := by exact OwnKy.snoc hown
              have BB_ : Hid (Below w.heap.size w wsav2) := ((unhide BB).alloc (unhide BB).size _).grown hgr (by have q1_ := (unhide BB).size; simp; omega) (fun b hb => by have q2_ := (World.ownsRow.lt (unhide OU) b hb).1; have q1_ := (unhide BB).size; have sz101_ := unhide sz101; omega)
              have sz102 : Hid (wsa1.heap.size ≤ wsav2.heap.size) := by have q3_ := hgr.size; simp at q3_; show _ ≤ _; omega
              clear Q
              have Q := Q_
              clear Q_
              clear OU
              have OU := OU_
              clear OU_
              clear N0
              have N0 := N0_
              clear N0_
              clear BB
              have BB := BB_
              clear BB_
              clear hown hgr oa lw2
              clear f6 f7
              have ST : Hid (stepP (l.drop k) = (⟨1, 0, ⟨#[]⟩⟩, 1)) := by show _ = _; rw [unhide DR]; exact step_a (x := alW) rfl
              go_wp2
              go_roundw
              case rel => rw [unhide HREL]; exact ⟨k + 1, acc ++ [⟨1, 0, ⟨#[]⟩⟩], by rw [← unhide HN]; omega, by go_num, unhide OU, by rw [List.length_append, ← unhide HM]; show m + 1 ≤ 6; omega, (unhide HK).trans ((keysF_step (acc := acc) (by rw [unhide dr]; simp)).trans ((if_neg (by rw [unhide ST]; intro q_; rcases q_ with q_ | q_; exact absurd (show (1 : Nat) = 0 from q_) (by decide); exact h6_ q_)).trans (by rw [unhide ST, List.drop_drop]))), unhide N0, Nat.le_trans d2 (by have q1_ := (unhide BB).size; have sz101_ := unhide sz101; have sz102_ := unhide sz102; omega), unhide BB⟩
              case measure => simp [intOf]; omega
          · have f1 : (x == [97, 108, 108]) = false := by rw [beq_eq_false_iff_ne]; exact h1
            have NSU : Hid (∀ q, (Value.slice au m cu).ownBlock = some q → q < wo.heap.size) := fun q e => (World.ownsRow.lt (unhide OU) q e).2
            have NSN : w.heap.size < wo.heap.size := by omega
            obtain ⟨wsb1, hQ⟩ : ∃ X, X = wo.alloc (.cells ([.int .i64 0, .int .i64 0, .string ⟨#[]⟩] : List Value).toArray 33) := ⟨_, rfl⟩
            have Qx : HasObj wsb1 wo.heap.size 33 [.int .i64 0, .int .i64 0, .string ⟨#[]⟩] := by rw [hQ]; exact HasObj.new _ _ _
            have hbn : Below wo.heap.size wo wsb1 := by rw [hQ]; exact (Below.refl _ _).alloc (Nat.le_refl _) _
            have loQ : w.heap.size ≤ wo.heap.size := (unhide BB).size
            have EQ := hQ.symm
            clear hQ
            have OU_ := hide ((unhide OU).up hbn)
            clear OU
            have OU := OU_
            clear OU_
            have N0_ := hide ((unhide N0).up hbn)
            clear N0
            have N0 := N0_
            clear N0_
            have sz101 := hide (hbn.size)
            have BB_ := hide (below_y (unhide BB) hbn)
            clear BB
            have BB := BB_
            clear BB_
            clear hbn
            have Q := hide Qx
            clear Qx
            have EQ_ := hide EQ
            clear EQ
            have EQ := EQ_
            clear EQ_
            obtain ⟨bv, hbv⟩ : ∃ z, z = bitV x := ⟨_, rfl⟩
            have HBV := hide hbv
            go_wp2_with fail
            rw [unhide EQ]
            clear EQ
            refine (sBit_any x _).mono ?_
            rintro e wsb2 ⟨rfl, hb⟩
            rw [← hbv]
            clear hbv
            have Q_ := hide ((unhide Q).ups hb)
            clear Q
            have Q := Q_
            clear Q_
            have OU_ := hide ((unhide OU).up hb)
            clear OU
            have OU := OU_
            clear OU_
            have N0_ := hide ((unhide N0).up hb)
            clear N0
            have N0 := N0_
            clear N0_
            have sz102 := hide (hb.size)
            have BB_ := hide (below_y (unhide BB) hb)
            clear BB
            have BB := BB_
            clear BB_
            clear hb
            by_cases h2 : bv = 0
            · as_aux_lemma =>
                subst h2
                by_cases hu : x.take 2 = unW
                · as_aux_lemma =>
                    have fw0 : (x == [115, 117, 98, 106, 101, 99, 116]) = false := by rw [beq_eq_false_iff_ne]; intro e; rw [e] at hu; exact absurd hu (by decide)
                    have fw1 : (x == [116, 101, 120, 116]) = false := by rw [beq_eq_false_iff_ne]; intro e; rw [e] at hu; exact absurd hu (by decide)
                    have fw2 : (x == [117, 105, 100]) = false := by rw [beq_eq_false_iff_ne]; intro e; rw [e] at hu; exact absurd hu (by decide)
                    have fw3 : (x == [109, 111, 100, 115, 101, 113]) = false := by rw [beq_eq_false_iff_ne]; intro e; rw [e] at hu; exact absurd hu (by decide)
                    by_cases hl2 : 2 < x.length
                    · have q1 : decide (2 < x.length) = true := decide_eq_true hl2
                      have q2 : decide ((2 : Int) < (x.length : Int)) = true := decide_eq_true (by omega)
                      have q3 : (((⟨x.toArray⟩ : ByteArray).extract 0 2).toList == [117, 110]) = true := by rw [ex_take, hu]; decide
                      have q4 : (2 : Int) ≤ (x.length : Int) := by omega
                      have q5 : 2 ≤ x.length := by omega
                      obtain ⟨bw, hbw⟩ : ∃ z, z = bitV (x.drop 2) := ⟨_, rfl⟩
                      have HBW := hide hbw
                      clear hbw
                      go_wp2_with fail
                      refine (sBitX_any x _).mono ?_
                      rintro e wsbnuy3 ⟨rfl, hb⟩
                      rw [← unhide HBW]
                      have Q_ := hide ((unhide Q).ups hb)
                      clear Q
                      have Q := Q_
                      clear Q_
                      have OU_ := hide ((unhide OU).up hb)
                      clear OU
                      have OU := OU_
                      clear OU_
                      have N0_ := hide ((unhide N0).up hb)
                      clear N0
                      have N0 := N0_
                      clear N0_
                      have sz103 := hide (hb.size)
                      have BB_ := hide (below_y (unhide BB) hb)
                      clear BB
                      have BB := BB_
                      clear BB_
                      clear hb
                      by_cases hw0 : bw = 0
                      · as_aux_lemma =>
                          subst hw0
                          go_wp2
                          go_returns
                          have q_ := (unhide HK).trans ((keysF_step (acc := acc) (by rw [unhide dr]; simp)).trans (if_pos (by left; rw [unhide DR, step_b (by rw [alone_un hu]; show (!bitV (x.drop 2) == 0) = false; rw [← unhide HBW]; rfl)])))
                          rw [kyV_none l q_]
                          exact ⟨_, rfl, unhide N0, unhide BB⟩
                      · as_aux_lemma =>
                          have hp : 0 < bw := by rw [unhide HBW]; exact bit_pos (by rw [← unhide HBW]; exact hw0)
                          have p1 : decide (0 < bw) = true := decide_eq_true hp
                          go_wp2_with fail
                          refine (sBitX_any x _).mono ?_
                          rintro e wsbnuyb4 ⟨rfl, hb⟩
                          rw [← unhide HBW]
                          have Q_ := hide ((unhide Q).ups hb)
                          clear Q
                          have Q := Q_
                          clear Q_
                          have OU_ := hide ((unhide OU).up hb)
                          clear OU
                          have OU := OU_
                          clear OU_
                          have N0_ := hide ((unhide N0).up hb)
                          clear N0
                          have N0 := N0_
                          clear N0_
                          have sz104 := hide (hb.size)
                          have BB_ := hide (below_y (unhide BB) hb)
                          clear BB
                          have BB := BB_
                          clear BB_
                          clear hb
                          have Qf0 := (unhide Q).frozen 0
                          have Qf1 := (unhide Q).frozen 1
                          have Qf2 := (unhide Q).frozen 2
                          have Qe0 := (unhide Q).cell 0 rfl
                          have Qe1 := (unhide Q).cell 1 rfl
                          have Qe2 := (unhide Q).cell 2 rfl
                          have F_ := hide (fill3 (unhide Q) (.int .i64 3) (.int .i64 bw) (.string ⟨#[]⟩))
                          obtain ⟨wsbnuyb5, hU⟩ : ∃ U, U = (((wsbnuyb4.setCell ⟨wo.heap.size, 0, none⟩ (.int .i64 3)).setCell ⟨wo.heap.size, 1, none⟩ (.int .i64 bw)).setCell ⟨wo.heap.size, 2, none⟩ (.string ⟨#[]⟩)) := ⟨_, rfl⟩
                          have GU_ : wsbnuyb4.grownBy wsbnuyb5 (some (wo.heap.size)) := by rw [hU]; exact g_store (g_store (g_store (g_self _ _) _) _) _
                          have F := unhide F_
                          rw [← hU] at F
                          have EU := hU.symm
                          clear hU F_
                          have Q_ := hide F.obj
                          have OU_ : Hid (OwnKy d wsbnuyb5 (.slice au m cu) (acc)) := g_aside (unhide OU) GU_ (fun q h1 h2 => by have q1_ := unhide NSU q h2; have q2_ := Option.some.inj h1; omega)
                          have N0_ : Hid (OwnKy w.heap.size wsbnuyb5 (.slice (some ⟨w.heap.size, 0, none⟩) 0 0) ([])) := g_aside (unhide N0) GU_ (fun q h1 h2 => by have q1_ := Option.some.inj h1; have q2_ : w.heap.size = q := Option.some.inj h2; omega)
                          have BB_ : Hid (Below w.heap.size w wsbnuyb5) := F.below loQ (unhide BB)
                          have sz105 : Hid (wsbnuyb4.heap.size ≤ wsbnuyb5.heap.size) := by show _ ≤ _; rw [F.size]; exact Nat.le_refl _
                          clear Q
                          have Q := Q_
                          clear Q_
                          clear OU
                          have OU := OU_
                          clear OU_
                          clear N0
                          have N0 := N0_
                          clear N0_
                          clear BB
                          have BB := BB_
                          clear BB_
                          clear F GU_
                          have e3 : decide (n ≤ k) = false := decide_eq_false (by omega)
                          have e4 : decide ((n : Int) ≤ (k : Int)) = false := decide_eq_false (by omega)
                          by_cases h6 : m = 6
                          · have f6 : decide (6 ≤ m) = true := decide_eq_true (by omega)
                            have f7 : decide ((6 : Int) ≤ (m : Int)) = true := decide_eq_true (by omega)
                            have h6_ : acc.length = 6 := by have := unhide HM; omega
                            have Qc0_1 := (unhide Q).cell 0 rfl
                            have Qc1_1 := (unhide Q).cell 1 rfl
                            have Qc2_1 := (unhide Q).cell 2 rfl
                            go_wp2
                            go_returns
                            have q_ := (unhide HK).trans ((keysF_step (acc := acc) (by rw [unhide dr]; simp)).trans (if_pos (by exact .inr h6_)))
                            rw [kyV_none l q_]
                            exact ⟨_, rfl, unhide N0, unhide BB⟩
                          · have f6 : decide (6 ≤ m) = false := decide_eq_false (by omega)
                            have f7 : decide ((6 : Int) ≤ (m : Int)) = false := decide_eq_false (by omega)
                            have h6_ : acc.length ≠ 6 := by have := unhide HM; omega
                            have Qc0_1 := (unhide Q).cell 0 rfl
                            have Qc1_1 := (unhide Q).cell 1 rfl
                            have Qc2_1 := (unhide Q).cell 2 rfl
                            have lw6 := (unhide BB).size
                            go_wp2_with (at_builtin; refine wpList_append_own _ rfl _ _ 24 rfl d 33 iY _ 3 32 Tryz.underlying24 hY hY0 hY1 hY2 rfl (by decide) _ _ _ rfl (World.ownsRow.alloc (unhide OU) _) ⟨wsbnuyb5.heap.size, 0, none⟩ 1 1 (kyC ⟨3, bw, ⟨#[]⟩⟩) rfl rfl (newsC _ _) ?c2 ?c3 ?c4 ?c5 ?_)
                            clear Qf0 Qf1 Qf2 Qe0 Qe1 Qe2 Qc0_1 Qc1_1 Qc2_1 EU
                            case c2 => intro u hu; simp [kyC] at hu; (try rcases hu with rfl | rfl | rfl) <;> (try rcases hu with rfl | rfl) <;> (try subst hu) <;> rfl
                            case c3 => unfold maxLen; omega
                            case c4 => omega
                            case c5 => have q1_ := (unhide BB).size; have sz101_ := unhide sz101; have sz102_ := unhide sz102; have sz103_ := unhide sz103; have sz104_ := unhide sz104; have sz105_ := unhide sz105; simp; omega
                            intro vOU6 wsbnuybv6 hown hgr _
                            have oa := World.ownsRow.alloc (unhide OU) (.cells ((kyC ⟨3, bw, ⟨#[]⟩⟩) : List Value).toArray 33)
                            have Q_ := hide (((unhide Q).alloc (.cells ((kyC ⟨3, bw, ⟨#[]⟩⟩) : List Value).toArray 33)).kept hgr (fun e => by have q1_ := unhide NSU _ e.symm; omega))
                            have N0_ : Hid (OwnKy w.heap.size wsbnuybv6 (.slice (some ⟨w.heap.size, 0, none⟩) 0 0) ([])) := g_aside (World.ownsRow.alloc (unhide N0) (.cells ((kyC ⟨3, bw, ⟨#[]⟩⟩) : List Value).toArray 33)) hgr (fun q h1 h2 => by have q1_ := (World.ownsRow.lt oa q h1).1; have q2_ : w.heap.size = q := Option.some.inj h2; omega)
                            have OU_ : Hid (OwnKy d wsbnuybv6 vOU6 (acc ++ [⟨3, bw, ⟨#[]⟩⟩])) := by exact OwnKy.snoc hown
                            have BB_ : Hid (Below w.heap.size w wsbnuybv6) := ((unhide BB).alloc (unhide BB).size _).grown hgr (by have q1_ := (unhide BB).size; simp; omega) (fun b hb => by have q2_ := (World.ownsRow.lt (unhide OU) b hb).1; have q1_ := (unhide BB).size; have sz101_ := unhide sz101; have sz102_ := unhide sz102; have sz103_ := unhide sz103; have sz104_ := unhide sz104; have sz105_ := unhide sz105; omega)
                            have sz106 : Hid (wsbnuyb5.heap.size ≤ wsbnuybv6.heap.size) := by have q3_ := hgr.size; simp at q3_; show _ ≤ _; omega
                            clear Q
                            have Q := Q_
                            clear Q_
                            clear OU
                            have OU := OU_
                            clear OU_
                            clear N0
                            have N0 := N0_
                            clear N0_
                            clear BB
                            have BB := BB_
                            clear BB_
                            clear hown hgr oa lw6
                            clear f6 f7
                            have ST : Hid (stepP (l.drop k) = (⟨3, bw, ⟨#[]⟩⟩, 1)) := by show _ = _; rw [unhide DR]; rw [step_a (by rw [alone_un hu, ← unhide HBW]; simp; exact hw0), alone_un hu, ← unhide HBW]
                            go_wp2
                            go_roundw
                            case rel => rw [unhide HREL]; exact ⟨k + 1, acc ++ [⟨3, bw, ⟨#[]⟩⟩], by rw [← unhide HN]; omega, by go_num, unhide OU, by rw [List.length_append, ← unhide HM]; show m + 1 ≤ 6; omega, (unhide HK).trans ((keysF_step (acc := acc) (by rw [unhide dr]; simp)).trans ((if_neg (by rw [unhide ST]; intro q_; rcases q_ with q_ | q_; exact absurd (show (1 : Nat) = 0 from q_) (by decide); exact h6_ q_)).trans (by rw [unhide ST, List.drop_drop]))), unhide N0, Nat.le_trans d2 (by have q1_ := (unhide BB).size; have sz101_ := unhide sz101; have sz102_ := unhide sz102; have sz103_ := unhide sz103; have sz104_ := unhide sz104; have sz105_ := unhide sz105; have sz106_ := unhide sz106; omega), unhide BB⟩
                            case measure => simp [intOf]; omega
                    · have q1 : decide (2 < x.length) = false := decide_eq_false hl2
                      have q2 : decide ((2 : Int) < (x.length : Int)) = false := decide_eq_false (by omega)
                      go_wp2
                      go_returns
                      have q_ := (unhide HK).trans ((keysF_step (acc := acc) (by rw [unhide dr]; simp)).trans (if_pos (by left; rw [unhide DR, step_b (by rw [alone_un hu]; show (!bitV (x.drop 2) == 0) = false; rw [un_more hu (by omega)]; rfl)])))
                      rw [kyV_none l q_]
                      exact ⟨_, rfl, unhide N0, unhide BB⟩
                · by_cases hw0 : x = suW
                  · as_aux_lemma =>
                      have fw0 : (x == [115, 117, 98, 106, 101, 99, 116]) = true := by rw [hw0]; decide
                      have fw1 : (x == [116, 101, 120, 116]) = false := by rw [hw0]; decide
                      have fw2 : (x == [117, 105, 100]) = false := by rw [hw0]; decide
                      have fw3 : (x == [109, 111, 100, 115, 101, 113]) = false := by rw [hw0]; decide
                      have hl2 : 2 < x.length := by rw [hw0]; decide
                      have q1 : decide (2 < x.length) = true := decide_eq_true hl2
                      have q2 : decide ((2 : Int) < (x.length : Int)) = true := decide_eq_true (by omega)
                      have q3 : (((⟨x.toArray⟩ : ByteArray).extract 0 2).toList == [117, 110]) = false := by rw [ex_take, beq_eq_false_iff_ne]; exact hu
                      have q4 : (2 : Int) ≤ (x.length : Int) := by omega
                      have q5 : 2 ≤ x.length := by omega
                      have HW := hide hw0
                      clear hw0
                      have Qf0 := (unhide Q).frozen 0
                      have Qf1 := (unhide Q).frozen 1
                      have Qf2 := (unhide Q).frozen 2
                      have Qe0 := (unhide Q).cell 0 rfl
                      have Qe1 := (unhide Q).cell 1 rfl
                      have Qe2 := (unhide Q).cell 2 rfl
                      have F_ := hide (fill3 (unhide Q) (.int .i64 4) (.int .i64 0) (.string ⟨([] : List UInt8).toArray⟩))
                      obtain ⟨wsbnwk03, hU⟩ : ∃ U, U = (((wsb2.setCell ⟨wo.heap.size, 0, none⟩ (.int .i64 4)).setCell ⟨wo.heap.size, 1, none⟩ (.int .i64 0)).setCell ⟨wo.heap.size, 2, none⟩ (.string ⟨([] : List UInt8).toArray⟩)) := ⟨_, rfl⟩
                      have GU_ : wsb2.grownBy wsbnwk03 (some (wo.heap.size)) := by rw [hU]; exact g_store (g_store (g_store (g_self _ _) _) _) _
                      have F := unhide F_
                      rw [← hU] at F
                      have EU := hU.symm
                      clear hU F_
                      have Q_ := hide F.obj
                      have OU_ : Hid (OwnKy d wsbnwk03 (.slice au m cu) (acc)) := g_aside (unhide OU) GU_ (fun q h1 h2 => by have q1_ := unhide NSU q h2; have q2_ := Option.some.inj h1; omega)
                      have N0_ : Hid (OwnKy w.heap.size wsbnwk03 (.slice (some ⟨w.heap.size, 0, none⟩) 0 0) ([])) := g_aside (unhide N0) GU_ (fun q h1 h2 => by have q1_ := Option.some.inj h1; have q2_ : w.heap.size = q := Option.some.inj h2; omega)
                      have BB_ : Hid (Below w.heap.size w wsbnwk03) := F.below loQ (unhide BB)
                      have sz103 : Hid (wsb2.heap.size ≤ wsbnwk03.heap.size) := by show _ ≤ _; rw [F.size]; exact Nat.le_refl _
                      clear Q
                      have Q := Q_
                      clear Q_
                      clear OU
                      have OU := OU_
                      clear OU_
                      clear N0
                      have N0 := N0_
                      clear N0_
                      clear BB
                      have BB := BB_
                      clear BB_
                      clear F GU_
                      obtain ⟨bl, hbl⟩ : ∃ z, z = inI 0 1 20 := ⟨_, rfl⟩
                      have HBL := hide hbl
                      clear hbl
                      go_wp2_with fail
                      clear Qf0 Qf1 Qf2 Qe0 Qe1 Qe2 EU
                      refine (l01InK_any 0 _).mono ?_
                      rintro e wsbnwk04 ⟨rfl, hb⟩
                      subst wsbnwk04
                      rw [← unhide HBL]
                      cases bl
                      · go_wp2
                        go_returns
                        have q_ := (unhide HK).trans ((keysF_step (acc := acc) (by rw [unhide dr]; simp)).trans (if_pos (by left; rw [unhide DR, step_b (by rw [unhide HW]; decide +kernel)])))
                        rw [kyV_none l q_]
                        exact ⟨_, rfl, unhide N0, unhide BB⟩
                      · exact absurd (show (withP x []).2 = true from by rw [unhide HW]; unfold withP; rw [if_pos rfl]; exact (unhide HBL).symm) (by rw [with_nil]; decide)
                  · have fw0 : (x == [115, 117, 98, 106, 101, 99, 116]) = false := by rw [beq_eq_false_iff_ne]; exact hw0
                    by_cases hw1 : x = teW
                    · as_aux_lemma =>
                        have fw1 : (x == [116, 101, 120, 116]) = true := by rw [hw1]; decide
                        have fw2 : (x == [117, 105, 100]) = false := by rw [hw1]; decide
                        have fw3 : (x == [109, 111, 100, 115, 101, 113]) = false := by rw [hw1]; decide
                        have hl2 : 2 < x.length := by rw [hw1]; decide
                        have q1 : decide (2 < x.length) = true := decide_eq_true hl2
                        have q2 : decide ((2 : Int) < (x.length : Int)) = true := decide_eq_true (by omega)
                        have q3 : (((⟨x.toArray⟩ : ByteArray).extract 0 2).toList == [117, 110]) = false := by rw [ex_take, beq_eq_false_iff_ne]; exact hu
                        have q4 : (2 : Int) ≤ (x.length : Int) := by omega
                        have q5 : 2 ≤ x.length := by omega
                        have HW := hide hw1
                        clear hw1
                        have Qf0 := (unhide Q).frozen 0
                        have Qf1 := (unhide Q).frozen 1
                        have Qf2 := (unhide Q).frozen 2
                        have Qe0 := (unhide Q).cell 0 rfl
                        have Qe1 := (unhide Q).cell 1 rfl
                        have Qe2 := (unhide Q).cell 2 rfl
                        have F_ := hide (fill3 (unhide Q) (.int .i64 4) (.int .i64 0) (.string ⟨([] : List UInt8).toArray⟩))
                        obtain ⟨wsbnwnk13, hU⟩ : ∃ U, U = (((wsb2.setCell ⟨wo.heap.size, 0, none⟩ (.int .i64 4)).setCell ⟨wo.heap.size, 1, none⟩ (.int .i64 0)).setCell ⟨wo.heap.size, 2, none⟩ (.string ⟨([] : List UInt8).toArray⟩)) := ⟨_, rfl⟩
                        have GU_ : wsb2.grownBy wsbnwnk13 (some (wo.heap.size)) := by rw [hU]; exact g_store (g_store (g_store (g_self _ _) _) _) _
                        have F := unhide F_
                        rw [← hU] at F
                        have EU := hU.symm
                        clear hU F_
                        have Q_ := hide F.obj
                        have OU_ : Hid (OwnKy d wsbnwnk13 (.slice au m cu) (acc)) := g_aside (unhide OU) GU_ (fun q h1 h2 => by have q1_ := unhide NSU q h2; have q2_ := Option.some.inj h1; omega)
                        have N0_ : Hid (OwnKy w.heap.size wsbnwnk13 (.slice (some ⟨w.heap.size, 0, none⟩) 0 0) ([])) := g_aside (unhide N0) GU_ (fun q h1 h2 => by have q1_ := Option.some.inj h1; have q2_ : w.heap.size = q := Option.some.inj h2; omega)
                        have BB_ : Hid (Below w.heap.size w wsbnwnk13) := F.below loQ (unhide BB)
                        have sz103 : Hid (wsb2.heap.size ≤ wsbnwnk13.heap.size) := by show _ ≤ _; rw [F.size]; exact Nat.le_refl _
                        clear Q
                        have Q := Q_
                        clear Q_
                        clear OU
                        have OU := OU_
                        clear OU_
                        clear N0
                        have N0 := N0_
                        clear N0_
                        clear BB
                        have BB := BB_
                        clear BB_
                        clear F GU_
                        have Qf9_4 := (unhide Q).frozen 0
                        have Qe9_4 := (unhide Q).cell 0 rfl
                        obtain ⟨wsbnwnk14, hU⟩ : ∃ U, U = wsbnwnk13.setCell ⟨wo.heap.size, 0, none⟩ (.int .i64 5) := ⟨_, rfl⟩
                        have GU_ : wsbnwnk13.grownBy wsbnwnk14 (some (wo.heap.size)) := by rw [hU]; exact g_store (g_self _ _) _
                        have Q_ := hide ((unhide Q).set 0 (.int .i64 5))
                        rw [← hU] at Q_
                        have OU_ : Hid (OwnKy d wsbnwnk14 (.slice au m cu) (acc)) := g_aside (unhide OU) GU_ (fun q h1 h2 => by have q1_ := unhide NSU q h2; have q2_ := Option.some.inj h1; omega)
                        have N0_ : Hid (OwnKy w.heap.size wsbnwnk14 (.slice (some ⟨w.heap.size, 0, none⟩) 0 0) ([])) := g_aside (unhide N0) GU_ (fun q h1 h2 => by have q1_ := Option.some.inj h1; have q2_ : w.heap.size = q := Option.some.inj h2; omega)
                        have BB_ := hide ((unhide BB).setCell (p := ⟨wo.heap.size, 0, none⟩) (show w.heap.size ≤ wo.heap.size from loQ) (.int .i64 5))
                        rw [← hU] at BB_
                        have sz104 : Hid (wsbnwnk13.heap.size ≤ wsbnwnk14.heap.size) := by show _ ≤ _; rw [hU]; simp
                        have EU104 := hU.symm
                        clear hU GU_
                        clear Q
                        have Q := Q_
                        clear Q_
                        clear OU
                        have OU := OU_
                        clear OU_
                        clear N0
                        have N0 := N0_
                        clear N0_
                        clear BB
                        have BB := BB_
                        clear BB_
                        obtain ⟨bl, hbl⟩ : ∃ z, z = inI 0 1 20 := ⟨_, rfl⟩
                        have HBL := hide hbl
                        clear hbl
                        go_wp2_with fail
                        clear Qf0 Qf1 Qf2 Qe0 Qe1 Qe2 Qf9_4 Qe9_4 EU EU104
                        refine (l01InK_any 0 _).mono ?_
                        rintro e wsbnwnk15 ⟨rfl, hb⟩
                        subst wsbnwnk15
                        rw [← unhide HBL]
                        cases bl
                        · go_wp2
                          go_returns
                          have q_ := (unhide HK).trans ((keysF_step (acc := acc) (by rw [unhide dr]; simp)).trans (if_pos (by left; rw [unhide DR, step_b (by rw [unhide HW]; decide +kernel)])))
                          rw [kyV_none l q_]
                          exact ⟨_, rfl, unhide N0, unhide BB⟩
                        · exact absurd (show (withP x []).2 = true from by rw [unhide HW]; unfold withP; rw [if_neg (by decide), if_pos rfl]; exact (unhide HBL).symm) (by rw [with_nil]; decide)
                    · have fw1 : (x == [116, 101, 120, 116]) = false := by rw [beq_eq_false_iff_ne]; exact hw1
                      by_cases hw2 : x = uiW
                      · as_aux_lemma =>
                          have fw2 : (x == [117, 105, 100]) = true := by rw [hw2]; decide
                          have fw3 : (x == [109, 111, 100, 115, 101, 113]) = false := by rw [hw2]; decide
                          have hl2 : 2 < x.length := by rw [hw2]; decide
                          have q1 : decide (2 < x.length) = true := decide_eq_true hl2
                          have q2 : decide ((2 : Int) < (x.length : Int)) = true := decide_eq_true (by omega)
                          have q3 : (((⟨x.toArray⟩ : ByteArray).extract 0 2).toList == [117, 110]) = false := by rw [ex_take, beq_eq_false_iff_ne]; exact hu
                          have q4 : (2 : Int) ≤ (x.length : Int) := by omega
                          have q5 : 2 ≤ x.length := by omega
                          have HW := hide hw2
                          clear hw2
                          have Qf0 := (unhide Q).frozen 0
                          have Qf1 := (unhide Q).frozen 1
                          have Qf2 := (unhide Q).frozen 2
                          have Qe0 := (unhide Q).cell 0 rfl
                          have Qe1 := (unhide Q).cell 1 rfl
                          have Qe2 := (unhide Q).cell 2 rfl
                          have F_ := hide (fill3 (unhide Q) (.int .i64 6) (.int .i64 0) (.string ⟨([] : List UInt8).toArray⟩))
                          obtain ⟨wsbnwnnk23, hU⟩ : ∃ U, U = (((wsb2.setCell ⟨wo.heap.size, 0, none⟩ (.int .i64 6)).setCell ⟨wo.heap.size, 1, none⟩ (.int .i64 0)).setCell ⟨wo.heap.size, 2, none⟩ (.string ⟨([] : List UInt8).toArray⟩)) := ⟨_, rfl⟩
                          have GU_ : wsb2.grownBy wsbnwnnk23 (some (wo.heap.size)) := by rw [hU]; exact g_store (g_store (g_store (g_self _ _) _) _) _
                          have F := unhide F_
                          rw [← hU] at F
                          have EU := hU.symm
                          clear hU F_
                          have Q_ := hide F.obj
                          have OU_ : Hid (OwnKy d wsbnwnnk23 (.slice au m cu) (acc)) := g_aside (unhide OU) GU_ (fun q h1 h2 => by have q1_ := unhide NSU q h2; have q2_ := Option.some.inj h1; omega)
                          have N0_ : Hid (OwnKy w.heap.size wsbnwnnk23 (.slice (some ⟨w.heap.size, 0, none⟩) 0 0) ([])) := g_aside (unhide N0) GU_ (fun q h1 h2 => by have q1_ := Option.some.inj h1; have q2_ : w.heap.size = q := Option.some.inj h2; omega)
                          have BB_ : Hid (Below w.heap.size w wsbnwnnk23) := F.below loQ (unhide BB)
                          have sz103 : Hid (wsb2.heap.size ≤ wsbnwnnk23.heap.size) := by show _ ≤ _; rw [F.size]; exact Nat.le_refl _
                          clear Q
                          have Q := Q_
                          clear Q_
                          clear OU
                          have OU := OU_
                          clear OU_
                          clear N0
                          have N0 := N0_
                          clear N0_
                          clear BB
                          have BB := BB_
                          clear BB_
                          clear F GU_
                          obtain ⟨bl, hbl⟩ : ∃ z, z = (readV ([] : List UInt8) 9999).2 := ⟨_, rfl⟩
                          have HBL := hide hbl
                          clear hbl
                          go_wp2_with fail
                          clear Qf0 Qf1 Qf2 Qe0 Qe1 Qe2 EU
                          refine (sSet_any ([] : List UInt8) _ ms).mono ?_
                          rintro e wsbnwnnk24 ⟨vS, rfl, hb⟩
                          have Q_ := hide ((unhide Q).ups hb)
                          clear Q
                          have Q := Q_
                          clear Q_
                          have OU_ := hide ((unhide OU).up hb)
                          clear OU
                          have OU := OU_
                          clear OU_
                          have N0_ := hide ((unhide N0).up hb)
                          clear N0
                          have N0 := N0_
                          clear N0_
                          have sz104 := hide (hb.size)
                          have BB_ := hide (below_y (unhide BB) hb)
                          clear BB
                          have BB := BB_
                          clear BB_
                          clear hb
                          rw [← unhide HBL]
                          cases bl
                          · go_wp2
                            go_returns
                            have q_ := (unhide HK).trans ((keysF_step (acc := acc) (by rw [unhide dr]; simp)).trans (if_pos (by left; rw [unhide DR, step_b (by rw [unhide HW]; decide +kernel)])))
                            rw [kyV_none l q_]
                            exact ⟨_, rfl, unhide N0, unhide BB⟩
                          · exact absurd (show (withP x []).2 = true from by rw [unhide HW]; unfold withP; rw [if_neg (by decide), if_neg (by decide), if_pos rfl]; exact (unhide HBL).symm) (by rw [with_nil]; decide)
                      · have fw2 : (x == [117, 105, 100]) = false := by rw [beq_eq_false_iff_ne]; exact hw2
                        by_cases hw3 : x = moW
                        · as_aux_lemma =>
                            have fw3 : (x == [109, 111, 100, 115, 101, 113]) = true := by rw [hw3]; decide
                            have hl2 : 2 < x.length := by rw [hw3]; decide
                            have q1 : decide (2 < x.length) = true := decide_eq_true hl2
                            have q2 : decide ((2 : Int) < (x.length : Int)) = true := decide_eq_true (by omega)
                            have q3 : (((⟨x.toArray⟩ : ByteArray).extract 0 2).toList == [117, 110]) = false := by rw [ex_take, beq_eq_false_iff_ne]; exact hu
                            have q4 : (2 : Int) ≤ (x.length : Int) := by omega
                            have q5 : 2 ≤ x.length := by omega
                            have HW := hide hw3
                            clear hw3
                            obtain ⟨⟨dn, db⟩, hd_⟩ : ∃ z, z = decP ([] : List UInt8) := ⟨_, rfl⟩
                            have HD := hide hd_
                            clear hd_
                            go_wp2_with fail
                            refine (sDec_any ([] : List UInt8) _ ms).mono ?_
                            rintro e wsbnwnnnk33 ⟨rfl, hb⟩
                            have Q_ := hide ((unhide Q).ups hb)
                            clear Q
                            have Q := Q_
                            clear Q_
                            have OU_ := hide ((unhide OU).up hb)
                            clear OU
                            have OU := OU_
                            clear OU_
                            have N0_ := hide ((unhide N0).up hb)
                            clear N0
                            have N0 := N0_
                            clear N0_
                            have sz103 := hide (hb.size)
                            have BB_ := hide (below_y (unhide BB) hb)
                            clear BB
                            have BB := BB_
                            clear BB_
                            clear hb
                            rw [← unhide HD]
                            have Qf0 := (unhide Q).frozen 0
                            have Qf1 := (unhide Q).frozen 1
                            have Qf2 := (unhide Q).frozen 2
                            have Qe0 := (unhide Q).cell 0 rfl
                            have Qe1 := (unhide Q).cell 1 rfl
                            have Qe2 := (unhide Q).cell 2 rfl
                            have F_ := hide (fill3 (unhide Q) (.int .i64 7) (.int .i64 dn) (.string ⟨#[]⟩))
                            obtain ⟨wsbnwnnnk34, hU⟩ : ∃ U, U = (((wsbnwnnnk33.setCell ⟨wo.heap.size, 0, none⟩ (.int .i64 7)).setCell ⟨wo.heap.size, 1, none⟩ (.int .i64 dn)).setCell ⟨wo.heap.size, 2, none⟩ (.string ⟨#[]⟩)) := ⟨_, rfl⟩
                            have GU_ : wsbnwnnnk33.grownBy wsbnwnnnk34 (some (wo.heap.size)) := by rw [hU]; exact g_store (g_store (g_store (g_self _ _) _) _) _
                            have F := unhide F_
                            rw [← hU] at F
                            have EU := hU.symm
                            clear hU F_
                            have Q_ := hide F.obj
                            have OU_ : Hid (OwnKy d wsbnwnnnk34 (.slice au m cu) (acc)) := g_aside (unhide OU) GU_ (fun q h1 h2 => by have q1_ := unhide NSU q h2; have q2_ := Option.some.inj h1; omega)
                            have N0_ : Hid (OwnKy w.heap.size wsbnwnnnk34 (.slice (some ⟨w.heap.size, 0, none⟩) 0 0) ([])) := g_aside (unhide N0) GU_ (fun q h1 h2 => by have q1_ := Option.some.inj h1; have q2_ : w.heap.size = q := Option.some.inj h2; omega)
                            have BB_ : Hid (Below w.heap.size w wsbnwnnnk34) := F.below loQ (unhide BB)
                            have sz104 : Hid (wsbnwnnnk33.heap.size ≤ wsbnwnnnk34.heap.size) := by show _ ≤ _; rw [F.size]; exact Nat.le_refl _
                            clear Q
                            have Q := Q_
                            clear Q_
                            clear OU
                            have OU := OU_
                            clear OU_
                            clear N0
                            have N0 := N0_
                            clear N0_
                            clear BB
                            have BB := BB_
                            clear BB_
                            clear F GU_
                            cases db
                            · go_wp2
                              go_returns
                              have q_ := (unhide HK).trans ((keysF_step (acc := acc) (by rw [unhide dr]; simp)).trans (if_pos (by left; rw [unhide DR, step_b (by rw [unhide HW]; decide +kernel)])))
                              rw [kyV_none l q_]
                              exact ⟨_, rfl, unhide N0, unhide BB⟩
                            · by_cases hb1 : dn ≤ 100000
                              · have b1 : decide (dn ≤ 100000) = true := decide_eq_true hb1
                                exact absurd (show (withP x []).2 = true from by rw [unhide HW]; unfold withP; rw [if_neg (by decide), if_neg (by decide), if_neg (by decide), if_pos rfl]; rw [← unhide HD]; show (true && decide (dn ≤ 100000)) = true; rw [b1]; rfl) (by rw [with_nil]; decide)
                              · have b1 : decide (dn ≤ 100000) = false := decide_eq_false hb1
                                go_wp2
                                go_returns
                                have q_ := (unhide HK).trans ((keysF_step (acc := acc) (by rw [unhide dr]; simp)).trans (if_pos (by left; rw [unhide DR, step_b (by rw [unhide HW]; decide +kernel)])))
                                rw [kyV_none l q_]
                                exact ⟨_, rfl, unhide N0, unhide BB⟩
                        · have fw3 : (x == [109, 111, 100, 115, 101, 113]) = false := by rw [beq_eq_false_iff_ne]; exact hw3
                          have wt9 : (withP x ([] : List UInt8)).2 = false := by unfold withP; rw [if_neg hw0, if_neg hw1, if_neg hw2, if_neg hw3]
                          have al9 : (aloneP x).2 = false := by rw [alone_no h1 hu]; show (!bitV x == 0) = false; rw [← unhide HBV]; rfl
                          have AL9 := hide al9
                          have WT9 := hide wt9
                          clear al9 wt9
                          by_cases hl2 : 2 < x.length
                          · have q1 : decide (2 < x.length) = true := decide_eq_true hl2
                            have q2 : decide ((2 : Int) < (x.length : Int)) = true := decide_eq_true (by omega)
                            have q3 : (((⟨x.toArray⟩ : ByteArray).extract 0 2).toList == [117, 110]) = false := by rw [ex_take, beq_eq_false_iff_ne]; exact hu
                            have q4 : (2 : Int) ≤ (x.length : Int) := by omega
                            have q5 : 2 ≤ x.length := by omega
                            go_wp2
                            go_returns
                            have q_ := (unhide HK).trans ((keysF_step (acc := acc) (by rw [unhide dr]; simp)).trans (if_pos (by left; rw [unhide DR, step_b (unhide AL9)])))
                            rw [kyV_none l q_]
                            exact ⟨_, rfl, unhide N0, unhide BB⟩
                          · have q1 : decide (2 < x.length) = false := decide_eq_false hl2
                            have q2 : decide ((2 : Int) < (x.length : Int)) = false := decide_eq_false (by omega)
                            go_wp2
                            go_returns
                            have q_ := (unhide HK).trans ((keysF_step (acc := acc) (by rw [unhide dr]; simp)).trans (if_pos (by left; rw [unhide DR, step_b (unhide AL9)])))
                            rw [kyV_none l q_]
                            exact ⟨_, rfl, unhide N0, unhide BB⟩
            · as_aux_lemma =>
                have hp : 0 < bv := by rw [unhide HBV]; exact bit_pos (by rw [← unhide HBV]; exact h2)
                have p1 : decide (0 < bv) = true := decide_eq_true hp
                have hun : ¬ x.take 2 = unW := fun e => h2 (by rw [unhide HBV]; exact un_bit e)
                go_wp2_with fail
                refine (sBit_any x _).mono ?_
                rintro e wsbf3 ⟨rfl, hb⟩
                rw [← unhide HBV]
                have Q_ := hide ((unhide Q).ups hb)
                clear Q
                have Q := Q_
                clear Q_
                have OU_ := hide ((unhide OU).up hb)
                clear OU
                have OU := OU_
                clear OU_
                have N0_ := hide ((unhide N0).up hb)
                clear N0
                have N0 := N0_
                clear N0_
                have sz103 := hide (hb.size)
                have BB_ := hide (below_y (unhide BB) hb)
                clear BB
                have BB := BB_
                clear BB_
                clear hb
                have Qf0 := (unhide Q).frozen 0
                have Qf1 := (unhide Q).frozen 1
                have Qf2 := (unhide Q).frozen 2
                have Qe0 := (unhide Q).cell 0 rfl
                have Qe1 := (unhide Q).cell 1 rfl
                have Qe2 := (unhide Q).cell 2 rfl
                have F_ := hide (fill3 (unhide Q) (.int .i64 2) (.int .i64 bv) (.string ⟨#[]⟩))
                obtain ⟨wsbf4, hU⟩ : ∃ U, U = (((wsbf3.setCell ⟨wo.heap.size, 0, none⟩ (.int .i64 2)).setCell ⟨wo.heap.size, 1, none⟩ (.int .i64 bv)).setCell ⟨wo.heap.size, 2, none⟩ (.string ⟨#[]⟩)) := ⟨_, rfl⟩
                have GU_ : wsbf3.grownBy wsbf4 (some (wo.heap.size)) := by rw [hU]; exact g_store (g_store (g_store (g_self _ _) _) _) _
                have F := unhide F_
                rw [← hU] at F
                have EU := hU.symm
                clear hU F_
                have Q_ := hide F.obj
                have OU_ : Hid (OwnKy d wsbf4 (.slice au m cu) (acc)) := g_aside (unhide OU) GU_ (fun q h1 h2 => by have q1_ := unhide NSU q h2; have q2_ := Option.some.inj h1; omega)
                have N0_ : Hid (OwnKy w.heap.size wsbf4 (.slice (some ⟨w.heap.size, 0, none⟩) 0 0) ([])) := g_aside (unhide N0) GU_ (fun q h1 h2 => by have q1_ := Option.some.inj h1; have q2_ : w.heap.size = q := Option.some.inj h2; omega)
                have BB_ : Hid (Below w.heap.size w wsbf4) := F.below loQ (unhide BB)
                have sz104 : Hid (wsbf3.heap.size ≤ wsbf4.heap.size) := by show _ ≤ _; rw [F.size]; exact Nat.le_refl _
                clear Q
                have Q := Q_
                clear Q_
                clear OU
                have OU := OU_
                clear OU_
                clear N0
                have N0 := N0_
                clear N0_
                clear BB
                have BB := BB_
                clear BB_
                clear F GU_
                have e3 : decide (n ≤ k) = false := decide_eq_false (by omega)
                have e4 : decide ((n : Int) ≤ (k : Int)) = false := decide_eq_false (by omega)
                by_cases h6 : m = 6
                · have f6 : decide (6 ≤ m) = true := decide_eq_true (by omega)
                  have f7 : decide ((6 : Int) ≤ (m : Int)) = true := decide_eq_true (by omega)
                  have h6_ : acc.length = 6 := by have := unhide HM; omega
                  have Qc0_1 := (unhide Q).cell 0 rfl
                  have Qc1_1 := (unhide Q).cell 1 rfl
                  have Qc2_1 := (unhide Q).cell 2 rfl
                  go_wp2
                  go_returns
                  have q_ := (unhide HK).trans ((keysF_step (acc := acc) (by rw [unhide dr]; simp)).trans (if_pos (by exact .inr h6_)))
                  rw [kyV_none l q_]
                  exact ⟨_, rfl, unhide N0, unhide BB⟩
                · have f6 : decide (6 ≤ m) = false := decide_eq_false (by omega)
                  have f7 : decide ((6 : Int) ≤ (m : Int)) = false := decide_eq_false (by omega)
                  have h6_ : acc.length ≠ 6 := by have := unhide HM; omega
                  have Qc0_1 := (unhide Q).cell 0 rfl
                  have Qc1_1 := (unhide Q).cell 1 rfl
                  have Qc2_1 := (unhide Q).cell 2 rfl
                  have lw5 := (unhide BB).size
                  go_wp2_with (at_builtin; refine wpList_append_own _ rfl _ _ 24 rfl d 33 iY _ 3 32 Tryz.underlying24 hY hY0 hY1 hY2 rfl (by decide) _ _ _ rfl (World.ownsRow.alloc (unhide OU) _) ⟨wsbf4.heap.size, 0, none⟩ 1 1 (kyC ⟨2, bv, ⟨#[]⟩⟩) rfl rfl (newsC _ _) ?c2 ?c3 ?c4 ?c5 ?_)
                  clear Qf0 Qf1 Qf2 Qe0 Qe1 Qe2 Qc0_1 Qc1_1 Qc2_1 EU
                  case c2 => intro u hu; simp [kyC] at hu; (try rcases hu with rfl | rfl | rfl) <;> (try rcases hu with rfl | rfl) <;> (try subst hu) <;> rfl
                  case c3 => unfold maxLen; omega
                  case c4 => omega
                  case c5 => have q1_ := (unhide BB).size; have sz101_ := unhide sz101; have sz102_ := unhide sz102; have sz103_ := unhide sz103; have sz104_ := unhide sz104; simp; omega
                  intro vOU5 wsbfv5 hown hgr _
                  have oa := World.ownsRow.alloc (unhide OU) (.cells ((kyC ⟨2, bv, ⟨#[]⟩⟩) : List Value).toArray 33)
                  have Q_ := hide (((unhide Q).alloc (.cells ((kyC ⟨2, bv, ⟨#[]⟩⟩) : List Value).toArray 33)).kept hgr (fun e => by have q1_ := unhide NSU _ e.symm; omega))
                  have N0_ : Hid (OwnKy w.heap.size wsbfv5 (.slice (some ⟨w.heap.size, 0, none⟩) 0 0) ([])) := g_aside (World.ownsRow.alloc (unhide N0) (.cells ((kyC ⟨2, bv, ⟨#[]⟩⟩) : List Value).toArray 33)) hgr (fun q h1 h2 => by have q1_ := (World.ownsRow.lt oa q h1).1; have q2_ : w.heap.size = q := Option.some.inj h2; omega)
                  have OU_ : Hid (OwnKy d wsbfv5 vOU5 (acc ++ [⟨2, bv, ⟨#[]⟩⟩])) := by exact OwnKy.snoc hown
                  have BB_ : Hid (Below w.heap.size w wsbfv5) := ((unhide BB).alloc (unhide BB).size _).grown hgr (by have q1_ := (unhide BB).size; simp; omega) (fun b hb => by have q2_ := (World.ownsRow.lt (unhide OU) b hb).1; have q1_ := (unhide BB).size; have sz101_ := unhide sz101; have sz102_ := unhide sz102; have sz103_ := unhide sz103; have sz104_ := unhide sz104; omega)
                  have sz105 : Hid (wsbf4.heap.size ≤ wsbfv5.heap.size) := by have q3_ := hgr.size; simp at q3_; show _ ≤ _; omega
                  clear Q
                  have Q := Q_
                  clear Q_
                  clear OU
                  have OU := OU_
                  clear OU_
                  clear N0
                  have N0 := N0_
                  clear N0_
                  clear BB
                  have BB := BB_
                  clear BB_
                  clear hown hgr oa lw5
                  clear f6 f7
                  have ST : Hid (stepP (l.drop k) = (⟨2, bv, ⟨#[]⟩⟩, 1)) := by show _ = _; rw [unhide DR]; rw [step_a (by rw [alone_no h1 hun, ← unhide HBV]; simp; exact h2), alone_no h1 hun, ← unhide HBV]
                  go_wp2
                  go_roundw
                  case rel => rw [unhide HREL]; exact ⟨k + 1, acc ++ [⟨2, bv, ⟨#[]⟩⟩], by rw [← unhide HN]; omega, by go_num, unhide OU, by rw [List.length_append, ← unhide HM]; show m + 1 ≤ 6; omega, (unhide HK).trans ((keysF_step (acc := acc) (by rw [unhide dr]; simp)).trans ((if_neg (by rw [unhide ST]; intro q_; rcases q_ with q_ | q_; exact absurd (show (1 : Nat) = 0 from q_) (by decide); exact h6_ q_)).trans (by rw [unhide ST, List.drop_drop]))), unhide N0, Nat.le_trans d2 (by have q1_ := (unhide BB).size; have sz101_ := unhide sz101; have sz102_ := unhide sz102; have sz103_ := unhide sz103; have sz104_ := unhide sz104; have sz105_ := unhide sz105; omega), unhide BB⟩
                  case measure => simp [intOf]; omega
    · have e1 : decide (k < n) = false := decide_eq_false hlt
      have e2 : decide ((k : Int) < (n : Int)) = false := decide_eq_false (by omega)
      have hd0 : l.drop k = [] := List.drop_eq_nil_of_le (by rw [← unhide HN]; omega)
      have q_ := unhide HK
      rw [hd0, keysF_stop] at q_
      have HQ := hide (kyV_some l q_)
      clear q_ hd0
      go_wp2
      go_returns
      rw [unhide HQ, ← unhide HM]
      exact ⟨_, by simp, g_based (unhide OU) (Nat.le_of_lt d1), unhide BB⟩
end Go.Proofs.YthnofckkehephaaGreatDoor
