/- FnSubjects's walk, over whatever contracts of the program's own functions. -/
import Derived.Test.YtmkjocamknhcbaaDoorMailAll
namespace Go.Proofs.YtmkjocamknhcbaaDoor
open Go.RowKit
open Plain
set_option linter.unusedVariables false

/-- One of a row of texts that was laid just now. -/
theorem laid_str (zs : List ByteArray) (w : World) (n : Nat) (hn : n = zs.length) (h : zs.length ≤ 100) (x : Nat) (hx : x < n) : ∃ z ∈ zs, (w.alloc (.cells (zs.map Value.string).toArray 9)).cell? ⟨w.heap.size, x, none⟩ = some (.string z) := by
  subst hn
  refine ⟨zs[x], List.getElem_mem _, ?_⟩
  have := (World.ownsRow_lit (size := 1) (e := 9) w (zs.map Value.string).toArray zs.length (Nat.le_refl _) (by unfold maxLen; omega) (by simp)).cellAt x (by omega)
  rw [this]
  simp [hx]

set_option maxHeartbeats 8000000 in
set_option maxRecDepth 100000 in
theorem FnSubjects_walk (len cap : Nat) (a : Option Addr) (w : World) (ha : Arg w.heap.size w a len) (CI : MailsI w) :
    Calls Tryd.prog 5 #[.slice a len cap] w fun e w' => e = .returned (.bool true) ∧ Below w.heap.size w w' := by
  have hl := ha.1
  have q0 := bigF_any len cap a w (by omega)
  rw [decide_eq_false (show ¬ (1048576 : Int) < (len : Int) by omega)] at q0
  have Q0 := hide q0
  have DP := hide (fun W (hb : Below w.heap.size w W) => placesM_any w.heap.size len cap a W (ha.below hb) hb.size)
  have B0 := hide (Below.refl w.heap.size w)
  have CC := hide CI
  clear q0 ha CI
  go_enter Tryd.func5, Tryd.ntmps5
  go_wp2_with fail
  refine (unhide Q0).mono ?_
  rintro e w0 ⟨rfl, hw⟩
  subst w0
  go_wp2_with fail
  refine (unhide DP _ (unhide B0)).mono ?_
  rintro e w1 ⟨g, pc, p, hp, rfl, hc, hb⟩
  have B1 := hide (below_on (unhide B0) hb)
  clear hb B0
  have HP := hide hc
  have HQ := hide hp
  have c0 := hc 0 (by decide)
  have x0 : p 0 % 4 < 4 := Nat.mod_lt _ (by decide)
  have e0 : ((p 0 : Nat) : Int) % 4 = ((p 0 % 4 : Nat) : Int) := by omega
  have LS := laid_str [⟨#[104, 101, 108, 108, 111]⟩, ⟨#[97, 32, 98]⟩, ⟨#[110, 101, 119, 115, 32, 111, 102, 32, 105, 116]⟩, ⟨#[]⟩] w1 4 rfl (by decide) (p 0 % 4) x0
  obtain ⟨z, hz, cz⟩ := LS
  have hzB : z.data.toList ∈ baseT := (show ∀ z ∈ ([⟨#[104, 101, 108, 108, 111]⟩, ⟨#[97, 32, 98]⟩, ⟨#[110, 101, 119, 115, 32, 111, 102, 32, 105, 116]⟩, ⟨#[]⟩] : List ByteArray), z.data.toList ∈ baseT by decide) z hz
  have zl : z.size ≤ 20 := by have := (base_same _ hzB).2; have h2 : z.data.toList.length = z.size := rfl; omega
  generalize p 0 % 4 = x at *
  obtain ⟨WA, hWA⟩ : ∃ WA, WA = w1.alloc (.cells (([⟨#[104, 101, 108, 108, 111]⟩, ⟨#[97, 32, 98]⟩, ⟨#[110, 101, 119, 115, 32, 111, 102, 32, 105, 116]⟩, ⟨#[]⟩] : List ByteArray).map Value.string).toArray 9) := ⟨_, rfl⟩
  rw [← hWA] at cz
  have bA : Below w1.heap.size w1 WA := by rw [hWA]; exact (Below.refl _ _).alloc (Nat.le_refl _) _
  have d0 := g_cell bA c0
  have HP1 : Hid (∀ j, j < 12 → WA.cell? ⟨g, j, none⟩ = some (.int .i64 (p j : Int))) := fun j hj => g_cell bA (hc j hj)
  have BA := hide (below_on (unhide B1) bA)
  simp only [List.map_cons, List.map_nil] at hWA
  have hWB := hWA.symm
  clear hz hc hp c0 bA hWA HP
  go_wp2
  clear d0 cz hWB e0
  have n1 : p 1 % 4 < 4 := Nat.mod_lt _ (by decide)
  have e1 : ((p 1 : Nat) : Int) % 4 = ((p 1 % 4 : Nat) : Int) := by omega
  generalize p 1 % 4 = m at *
  go_loopw [5, 6] (fun t i wr => ∃ (k : Nat) (T : ByteArray), k ≤ m ∧ i = .int .i64 k ∧ t = .string T ∧ T.data.toList ∈ putT k z.data.toList ∧ Below w.heap.size w wr ∧ ∀ j, j < 12 → wr.cell? ⟨g, j, none⟩ = some (.int .i64 (p j : Int))) (fun _ i _ => m - (intOf i).toNat)
  case atStart => exact ⟨0, z, Nat.zero_le _, rfl, rfl, List.mem_singleton.2 rfl, unhide BA, unhide HP1⟩
  case round =>
    obtain ⟨k, T, hk, rfl, rfl, hT, hbel, hcs⟩ := hrel
    have c1 := hcs 1 (by decide)
    obtain ⟨f1, f2⟩ := base_facts ⟨k, by omega⟩ _ hzB _ hT
    have tl : T.size ≤ 60 := f2
    by_cases hlt : k < m
    · have d1 : decide ((k : Int) < (m : Int)) = true := by rw [decide_eq_true_eq]; omega
      have y0 : p (k + 2) % 3 < 3 := Nat.mod_lt _ (by decide)
      have e2 : ((p (k + 2) : Nat) : Int) % 3 = ((p (k + 2) % 3 : Nat) : Int) := by omega
      obtain ⟨u, hu, cu⟩ := laid_str [⟨#[82, 101, 58, 32]⟩, ⟨#[102, 119, 100, 58]⟩, ⟨#[32, 82, 69, 58, 32, 32]⟩] wr 3 rfl (by decide) (p (k + 2) % 3) y0
      have U1 : u.size ≤ 10 ∧ u.data.toList ∈ aheadT := (show ∀ z ∈ ([⟨#[82, 101, 58, 32]⟩, ⟨#[102, 119, 100, 58]⟩, ⟨#[32, 82, 69, 58, 32, 32]⟩] : List ByteArray), z.size ≤ 10 ∧ z.data.toList ∈ aheadT by decide) u hu
      obtain ⟨u1, u2⟩ := U1
      have NM : Hid ((u ++ T).data.toList ∈ putT (k + 1) z.data.toList) := by show (u ++ T).data.toList ∈ _; rw [app_list]; exact put_mem u2 hT
      generalize p (k + 2) % 3 = y at *
      obtain ⟨WA, hWA⟩ : ∃ WA, WA = wr.alloc (.cells (([⟨#[82, 101, 58, 32]⟩, ⟨#[102, 119, 100, 58]⟩, ⟨#[32, 82, 69, 58, 32, 32]⟩] : List ByteArray).map Value.string).toArray 9) := ⟨_, rfl⟩
      rw [← hWA] at cu
      have bA : Below wr.heap.size wr WA := by rw [hWA]; exact (Below.refl _ _).alloc (Nat.le_refl _) _
      have c2 : WA.cell? ⟨g, k + 2, none⟩ = some (.int .i64 (p (k + 2) : Int)) := g_cell bA (hcs (k + 2) (by omega))
      have HP2 : Hid (∀ j, j < 12 → WA.cell? ⟨g, j, none⟩ = some (.int .i64 (p j : Int))) := fun j hj => g_cell bA (hcs j hj)
      have BB := hide (below_on hbel bA)
      simp only [List.map_cons, List.map_nil] at hWA
      have hWB := hWA.symm
      have i1 : (0 : Int) ≤ (k : Int) + 2 := by omega
      have i2 : (k : Int) + 2 < 12 := by omega
      have i3 : ((k : Int) + 2).toNat = k + 2 := by omega
      clear hu u2 bA hWA hT hbel hcs f1 f2 hzB
      go_wp2
      go_roundw
      case rel => exact ⟨k + 1, _, hlt, by go_num, rfl, unhide NM, unhide BB, unhide HP2⟩
      case measure => simp [intOf]; omega
    · have d1 : decide ((k : Int) < (m : Int)) = false := by rw [decide_eq_false_iff_not]; omega
      have K1 := fun W hb => (unhide CC).base T W (by omega) hb
      have K2 := fun W hb => (unhide CC).base z W (by omega) hb
      have K3 := fun W hb => (unhide CC).base ⟨#[72, 101, 108, 108, 111]⟩ W (by decide) hb
      have K4 := fun W hb => (unhide CC).base ⟨#[114, 101, 97, 108]⟩ W (by decide) hb
      have ez : (⟨z.data.toList.toArray⟩ : ByteArray) = z := rfl
      rw [f1, ez] at K1
      rw [(base_same _ hzB).1, ez] at K2
      rw [show (⟨#[72, 101, 108, 108, 111]⟩ : ByteArray).data.toList = [72, 101, 108, 108, 111] from rfl, base_hello.1] at K3
      rw [show (⟨#[114, 101, 97, 108]⟩ : ByteArray).data.toList = [114, 101, 97, 108] from rfl, base_hello.2] at K4
      have K1 := hide K1
      have K2 := hide K2
      have K3 := hide K3
      have K4 := hide K4
      have B0 := hide hbel
      clear f1 f2 hzB hT hbel hcs ez
      go_wp2_with fail
      refine (unhide K1 _ (unhide B0)).mono ?_
      rintro e v1 ⟨rfl, hb⟩
      have B1 := hide (below_on (unhide B0) hb)
      clear hb B0
      go_wp2_with fail
      refine (unhide K1 _ (unhide B1)).mono ?_
      rintro e v2 ⟨rfl, hb⟩
      have B2 := hide (below_on (unhide B1) hb)
      clear hb B1
      go_wp2_with fail
      refine (unhide K2 _ (unhide B2)).mono ?_
      rintro e v3 ⟨rfl, hb⟩
      have B3 := hide (below_on (unhide B2) hb)
      clear hb B2
      go_wp2_with fail
      refine (unhide K3 _ (unhide B3)).mono ?_
      rintro e v4 ⟨rfl, hb⟩
      have B4 := hide (below_on (unhide B3) hb)
      clear hb B3
      go_wp2_with fail
      refine (unhide K4 _ (unhide B4)).mono ?_
      rintro e v5 ⟨rfl, hb⟩
      have B5 := hide (below_on (unhide B4) hb)
      clear hb B4
      go_wp2
      go_ret
      exact ⟨rfl, unhide B5⟩

theorem FnSubjects_big (len cap : Nat) (a : Option Addr) (w : World) (h1 : 1048576 < len) (h2 : len ≤ 9223372036854775807) :
    Calls Tryd.prog 5 #[.slice a len cap] w fun e w' => e = .returned (.bool true) ∧ Below w.heap.size w w' := by
  have Q := bigF_any len cap a w h2
  rw [show decide ((1048576 : Int) < len) = true by rw [decide_eq_true_eq]; omega] at Q
  have Q := hide Q
  go_enter Tryd.func5, Tryd.ntmps5
  go_wp2_with (go_at_call 7; refine (unhide Q).mono ?_; rintro e w1 ⟨rfl, hw⟩; subst w1)
  go_ret
  exact ⟨rfl, Below.refl _ _⟩
end Go.Proofs.YtmkjocamknhcbaaDoor
