/- The specification's LineOk. Made by gen_line.py. -/
import Derived.Test.YtgdihceikhkddaaDoorLnPlain
namespace Go.Proofs.YtgdihceikhkddaaDoor
open Go.RowKit Go.ChangeShapes Go.WideShapes Go.ChangeAt Go.Deep
open Plain
set_option linter.unusedVariables false
set_option linter.unusedSimpArgs false

theorem setOkE (l : List Rg) (v : Value) (B : Nat) (w : World) (hs : l.length ≤ 1048576) (h : OwnR B w v l) : Calls Tryd.prog 19 #[v] w fun e w' => e = .returned (.bool (okS l)) ∧ Below w.heap.size w w' :=
 (spec_SetOk_any l v w hs h.read).mono fun e w' ⟨h, q, hq⟩ => ⟨h, by rw [hq]; exact ⟨rfl, rfl, rfl, Nat.le_refl _, fun _ _ => rfl⟩⟩
set_option maxHeartbeats 4000000 in
set_option maxRecDepth 100000 in
theorem lineOkS (kind num uid flags mod : Int) (set : List Rg) (all : Bool) (n : Nat) (a : Option Addr) (c B : Nat) (w : World) (hs : set.length ≤ 1048576) (hn : n = set.length) (hr : OwnR B w (.slice a n c) set) :
  Calls Tryd.prog 10 #[.agg #[.int .i64 kind, .int .i64 num, .int .i64 uid, .int .i64 flags, .int .i64 mod, .slice a n c, .bool all]] w fun e w' => e = .returned (.bool (lineOk (⟨kind, num, uid, flags, mod, set, all⟩ : Ln))) ∧ Below w.heap.size w w' := by
 obtain ⟨Z, hZ⟩ : ∃ Z, Z = lineOk (⟨kind, num, uid, flags, mod, set, all⟩ : Ln) := ⟨_, rfl⟩
 rw [← hZ]
 have HZ := hide hZ; have HS := hide hs; have RS := hide hr; have HN := hide hn; clear hs hr hZ hn; have BB := hide (Below.refl w.heap.size w)
 obtain ⟨wk1, hA⟩ : ∃ X, X = w.alloc (.cells ([.int .i64 kind, .int .i64 num, .int .i64 uid, .int .i64 flags, .int .i64 mod, .slice a n c, .bool all] : List Value).toArray 30) := ⟨_, rfl⟩
 have Ax : HasObj wk1 w.heap.size 30 [.int .i64 kind, .int .i64 num, .int .i64 uid, .int .i64 flags, .int .i64 mod, .slice a n c, .bool all] := by rw [hA]; exact HasObj.new _ _ _
 have hbn : Below w.heap.size w wk1 := by rw [hA]; exact (Below.refl _ _).alloc (Nat.le_refl _) _
 have loA : w.heap.size ≤ w.heap.size := (uh BB).size
 have EA := hA.symm; clear hA; replace RS := hide ((uh RS).up hbn); have sz1 := hide (hbn.size); replace BB := hide (below_y (uh BB) hbn); clear hbn; have A := hide Ax; clear Ax; have Ac0_1 := (uh A).cell 0 rfl; have Ac1_1 := (uh A).cell 1 rfl; have Ac2_1 := (uh A).cell 2 rfl; have Ac3_1 := (uh A).cell 3 rfl; have Ac4_1 := (uh A).cell 4 rfl; have Ac5_1 := (uh A).cell 5 rfl; have Ac6_1 := (uh A).cell 6 rfl
 go_enter Tryd.func10, Tryd.ntmps10
 go_wp2_with fail; clear Ac0_1 Ac1_1 Ac2_1 Ac3_1 Ac4_1 Ac5_1 Ac6_1 EA
 refine (in_any kind 1 9 _).mono ?_
 rintro e w1 ⟨rfl, hw⟩
 subst w1
 have Ac0_2 := (uh A).cell 0 rfl; have Ac1_2 := (uh A).cell 1 rfl; have Ac2_2 := (uh A).cell 2 rfl; have Ac3_2 := (uh A).cell 3 rfl; have Ac4_2 := (uh A).cell 4 rfl; have Ac5_2 := (uh A).cell 5 rfl; have Ac6_2 := (uh A).cell 6 rfl
 cases hk : inI kind 1 9 with
 | false =>
  have hA : Z = false := by rw [uh HZ]; exact lineOk_no hk
  clear HZ
  subst hA
  go_wp2
  go_ret
  exact ⟨rfl, uh BB⟩
 | true =>
  go_wp2_with fail; clear Ac0_2 Ac1_2 Ac2_2 Ac3_2 Ac4_2 Ac5_2 Ac6_2
  refine (setOkE set _ _ _ (uh HS) (uh RS)).mono ?_
  rintro e wk2 ⟨rfl, hb⟩
  replace A := hide ((uh A).ups hb); replace RS := hide ((uh RS).up hb); have sz2 := hide (hb.size); replace BB := hide (below_y (uh BB) hb); clear hb; have Ac0_3 := (uh A).cell 0 rfl; have Ac1_3 := (uh A).cell 1 rfl; have Ac2_3 := (uh A).cell 2 rfl; have Ac3_3 := (uh A).cell 3 rfl; have Ac4_3 := (uh A).cell 4 rfl; have Ac5_3 := (uh A).cell 5 rfl; have Ac6_3 := (uh A).cell 6 rfl
  cases hS : okS set with
  | false =>
   have hA : Z = false := by rw [uh HZ]; exact lineOk_set hS
   clear HZ
   subst hA
   go_wp2
   go_ret
   exact ⟨rfl, uh BB⟩
  | true =>
   have HK := hide hk; have HO := hide hS; clear hk hS
   by_cases g3 : kind = 3
   case pos =>
    subst g3
    cases all with
    | true =>
     have hA : Z = false := by rw [uh HZ, lineOk_3 rfl]; have hn_ := uh HN; (try simp only [← hn_]); simp []
     clear HZ
     subst hA
     go_wp2
     go_ret
     exact ⟨rfl, uh BB⟩
    | false =>
     by_cases hl : n = 0
     case neg =>
      have hl2 : 0 < n := by omega
      have hl3 : (0 : Int) < (n : Int) := by omega
      have hA : Z = false := by rw [uh HZ, lineOk_3 rfl]; have hn_ := uh HN; (try simp only [← hn_]); simp [hl]
      clear HZ
      subst hA
      go_wp2
      go_ret
      exact ⟨rfl, uh BB⟩
     subst hl
     go_wp2_with fail
     refine (in_any num 1 30 _).mono ?_
     rintro e wk33 ⟨rfl, hw⟩
     subst wk33
     cases h0_ : inI num 1 30 with
     | false =>
      have hA : Z = false := by rw [uh HZ, lineOk_3 rfl]; have hn_ := uh HN; (try simp only [← hn_]); simp [h0_]
      clear HZ
      subst hA
      go_wp2
      go_ret
      exact ⟨rfl, uh BB⟩
     | true =>
      go_wp2_with fail
      refine (in_any uid 1 9999 _).mono ?_
      rintro e wk34 ⟨rfl, hw⟩
      subst wk34
      cases h1_ : inI uid 1 9999 with
      | false =>
       have hA : Z = false := by rw [uh HZ, lineOk_3 rfl]; have hn_ := uh HN; (try simp only [← hn_]); simp [h0_, h1_]
       clear HZ
       subst hA
       go_wp2
       go_ret
       exact ⟨rfl, uh BB⟩
      | true =>
       go_wp2_with fail
       refine (spec_FlagsOk_any flags _).mono ?_
       rintro e wk35 ⟨rfl, hw⟩
       subst wk35
       cases h2_ : flOk flags with
       | false =>
        have hA : Z = false := by rw [uh HZ, lineOk_3 rfl]; have hn_ := uh HN; (try simp only [← hn_]); simp [h0_, h1_, h2_]
        clear HZ
        subst hA
        go_wp2
        go_ret
        exact ⟨rfl, uh BB⟩
       | true =>
        go_wp2_with fail
        refine (in_any mod 1 100000 _).mono ?_
        rintro e wk36 ⟨rfl, hw⟩
        subst wk36
        have hA : Z = (inI mod 1 100000) := by rw [uh HZ, lineOk_3 rfl]; have hn_ := uh HN; (try simp only [← hn_]); simp [h0_, h1_, h2_]
        clear HZ
        subst hA
        go_wp2
        go_ret
        exact ⟨rfl, uh BB⟩
   by_cases g5 : kind = 5
   case pos =>
    subst g5
    by_cases huid : uid = 0
    case neg =>
     have hA : Z = false := by rw [uh HZ, lineOk_5 rfl]; have hn_ := uh HN; (try simp only [← hn_]); simp [huid]
     clear HZ
     subst hA
     go_wp2
     go_ret
     exact ⟨rfl, uh BB⟩
    subst huid
    by_cases hflags : flags = 0
    case neg =>
     have hA : Z = false := by rw [uh HZ, lineOk_5 rfl]; have hn_ := uh HN; (try simp only [← hn_]); simp [hflags]
     clear HZ
     subst hA
     go_wp2
     go_ret
     exact ⟨rfl, uh BB⟩
    subst hflags
    by_cases hl : n = 0
    case neg =>
     have hl2 : 0 < n := by omega
     have hl3 : (0 : Int) < (n : Int) := by omega
     have hA : Z = false := by rw [uh HZ, lineOk_5 rfl]; have hn_ := uh HN; (try simp only [← hn_]); simp [hl]
     clear HZ
     subst hA
     go_wp2
     go_ret
     exact ⟨rfl, uh BB⟩
    subst hl
    go_wp2_with fail
    refine (in_any num 1 9999 _).mono ?_
    rintro e wk53 ⟨rfl, hw⟩
    subst wk53
    cases h0_ : inI num 1 9999 with
    | false =>
     have hA : Z = false := by rw [uh HZ, lineOk_5 rfl]; have hn_ := uh HN; (try simp only [← hn_]); simp [h0_]
     clear HZ
     subst hA
     go_wp2
     go_ret
     exact ⟨rfl, uh BB⟩
    | true =>
     go_wp2_with fail
     refine (in_any mod 1 100000 _).mono ?_
     rintro e wk54 ⟨rfl, hw⟩
     subst wk54
     have hA : Z = (inI mod 1 100000) := by rw [uh HZ, lineOk_5 rfl]; have hn_ := uh HN; (try simp only [← hn_]); simp [h0_]
     clear HZ
     subst hA
     go_wp2
     go_ret
     exact ⟨rfl, uh BB⟩
   by_cases g4 : kind = 4
   case pos =>
    subst g4
    by_cases huid : uid = 0
    case neg =>
     have hA : Z = false := by rw [uh HZ, lineOk_4 rfl]; have hn_ := uh HN; (try simp only [← hn_]); simp [huid]
     clear HZ
     subst hA
     go_wp2
     go_ret
     exact ⟨rfl, uh BB⟩
    subst huid
    by_cases hflags : flags = 0
    case neg =>
     have hA : Z = false := by rw [uh HZ, lineOk_4 rfl]; have hn_ := uh HN; (try simp only [← hn_]); simp [hflags]
     clear HZ
     subst hA
     go_wp2
     go_ret
     exact ⟨rfl, uh BB⟩
    subst hflags
    by_cases hmod : mod = 0
    case neg =>
     have hA : Z = false := by rw [uh HZ, lineOk_4 rfl]; have hn_ := uh HN; (try simp only [← hn_]); simp [hmod]
     clear HZ
     subst hA
     go_wp2
     go_ret
     exact ⟨rfl, uh BB⟩
    subst hmod
    cases all with
    | true =>
     have hA : Z = false := by rw [uh HZ, lineOk_4 rfl]; have hn_ := uh HN; (try simp only [← hn_]); simp []
     clear HZ
     subst hA
     go_wp2
     go_ret
     exact ⟨rfl, uh BB⟩
    | false =>
     by_cases hnum : num = 0
     case neg =>
      have hA : Z = false := by rw [uh HZ, lineOk_4 rfl]; have hn_ := uh HN; (try simp only [← hn_]); simp [hnum]
      clear HZ
      subst hA
      go_wp2
      go_ret
      exact ⟨rfl, uh BB⟩
     subst hnum
     by_cases hl : n = 0
     case pos =>
      subst hl
      have hA : Z = false := by rw [uh HZ, lineOk_4 rfl]; have hn_ := uh HN; (try simp only [← hn_]); simp []
      clear HZ
      subst hA
      go_wp2
      go_ret
      exact ⟨rfl, uh BB⟩
     have hl2 : 0 < n := by omega
     have hl3 : (0 : Int) < (n : Int) := by omega
     have hA : Z = true := by rw [uh HZ, lineOk_4 rfl]; have hn_ := uh HN; (try simp only [← hn_]); simp [uh HO, hl]
     clear HZ
     subst hA
     go_wp2
     go_ret
     exact ⟨rfl, uh BB⟩
   by_cases g6 : kind = 6
   case pos =>
    subst g6
    by_cases huid : uid = 0
    case neg =>
     have hA : Z = false := by rw [uh HZ, lineOk_6 rfl]; have hn_ := uh HN; (try simp only [← hn_]); simp [huid]
     clear HZ
     subst hA
     go_wp2
     go_ret
     exact ⟨rfl, uh BB⟩
    subst huid
    by_cases hflags : flags = 0
    case neg =>
     have hA : Z = false := by rw [uh HZ, lineOk_6 rfl]; have hn_ := uh HN; (try simp only [← hn_]); simp [hflags]
     clear HZ
     subst hA
     go_wp2
     go_ret
     exact ⟨rfl, uh BB⟩
    subst hflags
    by_cases hmod : mod = 0
    case neg =>
     have hA : Z = false := by rw [uh HZ, lineOk_6 rfl]; have hn_ := uh HN; (try simp only [← hn_]); simp [hmod]
     clear HZ
     subst hA
     go_wp2
     go_ret
     exact ⟨rfl, uh BB⟩
    subst hmod
    cases all with
    | true =>
     have hA : Z = false := by rw [uh HZ, lineOk_6 rfl]; have hn_ := uh HN; (try simp only [← hn_]); simp []
     clear HZ
     subst hA
     go_wp2
     go_ret
     exact ⟨rfl, uh BB⟩
    | false =>
     have hA : Z = (num == 0) := by rw [uh HZ, lineOk_6 rfl]; have hn_ := uh HN; (try simp only [← hn_]); rw [Bool.eq_iff_iff]; simp [uh HO]
     clear HZ
     subst hA
     go_wp2
     go_ret
     exact ⟨rfl, uh BB⟩
   have b3 : (kind == 3) = false := by simpa using g3
   have b4 : (kind == 4) = false := by simpa using g4
   have b5 : (kind == 5) = false := by simpa using g5
   have b6 : (kind == 6) = false := by simpa using g6
   by_cases huid : uid = 0
   case neg =>
    have hA : Z = false := by rw [uh HZ]; have hn_ := uh HN; rcases kinds9 (uh HK) with h1 | h1 | h1 | h1 | h1 | h1 | h1 | h1 | h1 <;> first | (exact absurd h1 g3) | (exact absurd h1 g4) | (exact absurd h1 g5) | (exact absurd h1 g6) | (first | rw [lineOk_1 h1] | rw [lineOk_2 h1] | rw [lineOk_7 h1] | rw [lineOk_8 h1] | rw [lineOk_9 h1]) <;> ((try simp only [← hn_]); simp [huid])
    clear HZ
    subst hA
    go_wp2
    go_ret
    exact ⟨rfl, uh BB⟩
   subst huid
   by_cases hflags : flags = 0
   case neg =>
    have hA : Z = false := by rw [uh HZ]; have hn_ := uh HN; rcases kinds9 (uh HK) with h1 | h1 | h1 | h1 | h1 | h1 | h1 | h1 | h1 <;> first | (exact absurd h1 g3) | (exact absurd h1 g4) | (exact absurd h1 g5) | (exact absurd h1 g6) | (first | rw [lineOk_1 h1] | rw [lineOk_2 h1] | rw [lineOk_7 h1] | rw [lineOk_8 h1] | rw [lineOk_9 h1]) <;> ((try simp only [← hn_]); simp [hflags])
    clear HZ
    subst hA
    go_wp2
    go_ret
    exact ⟨rfl, uh BB⟩
   subst hflags
   by_cases hmod : mod = 0
   case neg =>
    have hA : Z = false := by rw [uh HZ]; have hn_ := uh HN; rcases kinds9 (uh HK) with h1 | h1 | h1 | h1 | h1 | h1 | h1 | h1 | h1 <;> first | (exact absurd h1 g3) | (exact absurd h1 g4) | (exact absurd h1 g5) | (exact absurd h1 g6) | (first | rw [lineOk_1 h1] | rw [lineOk_2 h1] | rw [lineOk_7 h1] | rw [lineOk_8 h1] | rw [lineOk_9 h1]) <;> ((try simp only [← hn_]); simp [hmod])
    clear HZ
    subst hA
    go_wp2
    go_ret
    exact ⟨rfl, uh BB⟩
   subst hmod
   cases all with
   | true =>
    have hA : Z = false := by rw [uh HZ]; have hn_ := uh HN; rcases kinds9 (uh HK) with h1 | h1 | h1 | h1 | h1 | h1 | h1 | h1 | h1 <;> first | (exact absurd h1 g3) | (exact absurd h1 g4) | (exact absurd h1 g5) | (exact absurd h1 g6) | (first | rw [lineOk_1 h1] | rw [lineOk_2 h1] | rw [lineOk_7 h1] | rw [lineOk_8 h1] | rw [lineOk_9 h1]) <;> ((try simp only [← hn_]); simp [])
    clear HZ
    subst hA
    go_wp2
    go_ret
    exact ⟨rfl, uh BB⟩
   | false =>
    by_cases hl : n = 0
    case neg =>
     have hl2 : 0 < n := by omega
     have hl3 : (0 : Int) < (n : Int) := by omega
     have hA : Z = false := by rw [uh HZ]; have hn_ := uh HN; rcases kinds9 (uh HK) with h1 | h1 | h1 | h1 | h1 | h1 | h1 | h1 | h1 <;> first | (exact absurd h1 g3) | (exact absurd h1 g4) | (exact absurd h1 g5) | (exact absurd h1 g6) | (first | rw [lineOk_1 h1] | rw [lineOk_2 h1] | rw [lineOk_7 h1] | rw [lineOk_8 h1] | rw [lineOk_9 h1]) <;> ((try simp only [← hn_]); simp [hl])
     clear HZ
     subst hA
     go_wp2
     go_ret
     exact ⟨rfl, uh BB⟩
    subst hl
    by_cases g1 : kind = 1
    case pos =>
     subst g1
     go_wp2_with fail
     refine (in_any num 0 30 _).mono ?_
     rintro e wk13 ⟨rfl, hw⟩
     subst wk13
     have hA : Z = (inI num 0 30) := by rw [uh HZ, lineOk_1 rfl]; have hn_ := uh HN; (try simp only [← hn_]); simp []
     clear HZ
     subst hA
     go_wp2
     go_ret
     exact ⟨rfl, uh BB⟩
    by_cases g2 : kind = 2
    case pos =>
     subst g2
     go_wp2_with fail
     refine (in_any num 1 30 _).mono ?_
     rintro e wk23 ⟨rfl, hw⟩
     subst wk23
     have hA : Z = (inI num 1 30) := by rw [uh HZ, lineOk_2 rfl]; have hn_ := uh HN; (try simp only [← hn_]); simp []
     clear HZ
     subst hA
     go_wp2
     go_ret
     exact ⟨rfl, uh BB⟩
    by_cases g8 : kind = 8
    case pos =>
     subst g8
     go_wp2_with fail
     refine (in_any num 1 9 _).mono ?_
     rintro e wk83 ⟨rfl, hw⟩
     subst wk83
     have hA : Z = (inI num 1 9) := by rw [uh HZ, lineOk_8 rfl]; have hn_ := uh HN; (try simp only [← hn_]); simp []
     clear HZ
     subst hA
     go_wp2
     go_ret
     exact ⟨rfl, uh BB⟩
    by_cases g7 : kind = 7
    case pos =>
     subst g7
     have hA : Z = (num == 0) := by rw [uh HZ, lineOk_7 rfl]; have hn_ := uh HN; (try simp only [← hn_]); rw [Bool.eq_iff_iff]; simp [uh HO]
     clear HZ
     subst hA
     go_wp2
     go_ret
     exact ⟨rfl, uh BB⟩
    have g9 : kind = 9 := by rcases kinds9 (uh HK) with h1 | h1 | h1 | h1 | h1 | h1 | h1 | h1 | h1 <;> first | exact h1 | exact absurd h1 (by assumption)
    subst g9
    have hA : Z = (num == 0) := by rw [uh HZ, lineOk_9 rfl]; have hn_ := uh HN; (try simp only [← hn_]); rw [Bool.eq_iff_iff]; simp [uh HO]
    clear HZ
    subst hA
    go_wp2
    go_ret
    exact ⟨rfl, uh BB⟩
end Go.Proofs.YtgdihceikhkddaaDoor
