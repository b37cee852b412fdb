/-
  What each function of package store answers, and what its memory holds afterwards: one contract a function; of the memory that was there only the store's own blocks have turned.
-/
import Derived.Test.YtnfhedmlifjlmaaChecked
import Derived.Test.YtnfhedmlifjlmaaSa
import Derived.Below
import Derived.BigQuiet
import Derived.OwnWalk
import Derived.Laws.AppendOwn
import Derived.Laws.AppendOwnNone
import Derived.WalkKit
import Derived.WalkLawsBesides
import Derived.WalkSpells
import Derived.ProofKit
import Derived.OpenShut
import Derived.Deep.RegionHeld3
import Derived.Deep.LoopGhost
import Derived.Laws.StructEq
import Derived.Lib.Builder
import Derived.Deep.DeepCutAuto
import Derived.Lib.SliceRun
import Derived.Laws.MakeOwn
namespace Go.Proofs.Ytnfhedmlifjlmaa
open Go.ChangeShapes Go.WideShapes Go.ChangeAt Go.RowKit Go.Lib
set_option linter.unusedVariables false
set_option linter.unusedSimpArgs false
set_option maxRecDepth 100000
set_option maxHeartbeats 4000000


theorem next_S (m : Sm) (s : Ss) (w : World) (h : Sto w m s) (ho : Okk s) : Calls Try.prog 36 #[.pointer (some ⟨m.p, 0, none⟩)] w fun e w' => ∃ k : Nat, e = .returned (.int .i64 (k : Int)) ∧ NextIs s k ∧ Sto w' m { s with nx := k } ∧ Fr m.F m.F w w' := by
  obtain ⟨n, hn⟩ : ∃ n, s.U.length = n := ⟨_, rfl⟩
  have hn0 := ho.um
  have hn1 := ho.m2
  rw [hn] at hn0
  have HN : Hid (s.U.length = n) := hn
  have HL : Hid (s.L.length = n) := ho.ll.trans hn
  have HF : Hid (∀ k i, full { s with nx := k } i ↔ full s i) := (fun k i => Iff.rfl : ∀ k i, full { s with nx := k } i ↔ full s i)
  have hpf : m.p ∈ m.F := Sto.pF
  have key : ∀ (wr : World) (k : Nat), Sto wr m { s with nx := k } → wr.cell? ⟨m.p, 2, none⟩ = some (.slice m.su n m.cu) ∧ wr.cell? ⟨m.p, 6, none⟩ = some (.int .i64 (k : Int)) ∧ wr.frozen? ⟨m.p, 6, none⟩ = false := fun wr k hS => ⟨by have := hS.c2; simp only at this; rw [hn] at this; exact this, hS.c6, hS.fz 6⟩
  have key2 : ∀ (wr : World) (k : Nat), k < n → Sto wr m { s with nx := k } → ∃ gu gl u b, s.U[k]? = some u ∧ s.L[k]? = some b ∧ wr.cell? ⟨m.p, 2, none⟩ = some (.slice (some ⟨gu, 0, none⟩) n m.cu) ∧ wr.cell? ⟨m.p, 3, none⟩ = some (.slice (some ⟨gl, 0, none⟩) n m.cl) ∧ wr.cell? ⟨gu, k, none⟩ = some (.int .u32 (u : Int)) ∧ wr.cell? ⟨gl, k, none⟩ = some (.bool b) := fun wr k hk hS => by
    have ru := hS.ru
    have rl := hS.rl
    have c2 := hS.c2
    have c3 := hS.c3
    simp only at ru rl c2 c3
    rw [hn] at ru c2
    rw [HL.out] at rl c3
    obtain ⟨gu, hgu, _⟩ := ru.at (by omega)
    obtain ⟨gl, hgl, _⟩ := rl.at (by omega)
    rw [hgu] at ru c2
    rw [hgl] at rl c3
    obtain ⟨u, hu⟩ := get_of_lt (l := s.U) (i := k) (by omega)
    obtain ⟨b, hb⟩ := get_of_lt (l := s.L) (i := k) (by rw [HL.out]; omega)
    exact ⟨gu, gl, u, b, hu, hb, c2, c3, ru.cell (by rw [uRow_get, hu]; rfl), rl.cell (by rw [lRow_get, hb]; rfl)⟩
  have hnf := ho.nf
  have hnu := ho.nu
  rw [hn] at hnu
  clear hn ho
  obtain ⟨p, hp⟩ : ∃ p, m.p = p := ⟨_, rfl⟩
  rw [hp] at key key2 hpf ⊢
  have HP : Hid (m.p = p) := hp
  clear hp
  go_enter Try.func36, Try.ntmps36
  go_wp2
  go_loopg [] n (fun kx wr => ∃ k : Nat, k ≤ n ∧ n - k ≤ kx ∧ Hid (∀ i, i < k → full s i) ∧ Sto wr m { s with nx := k } ∧ Fr m.F m.F w wr)
  case atStart => exact ⟨s.nx, hnu, by omega, hnf, h, Fr.refl _ _⟩
  case round =>
    obtain ⟨k, hk, hkx, hfl, hS, hfr⟩ := hrel
    obtain ⟨c2, c6, f6⟩ := key _ k hS
    by_cases hlt : k < n
    · have hltz : (k : Int) < (n : Int) := by omega
      have hd : decide ((k : Int) < (n : Int)) = true := decide_eq_true hltz
      have hw1 : IntKind.wrap .i64 ((k : Int) + 1) = (k : Int) + 1 := by rw [IntKind.wrap_i64]; omega
      obtain ⟨gu, gl, u, b, hu, hb, c2', c3, xu, xl⟩ := key2 _ k hlt hS
      clear c2
      have HU : Hid (s.U[k]? = some u) := hu
      have HB : Hid (s.L[k]? = some b) := hb
      clear hu hb
      have xS : ∀ W, Bel wr W → W.cell? ⟨p, 6, none⟩ = some (.int .i64 (k : Int)) ∧ W.frozen? ⟨p, 6, none⟩ = false ∧ Hid (Sto (W.setCell ⟨p, 6, none⟩ (.int .i64 ((k : Int) + 1))) m { s with nx := k + 1 }) ∧ Hid (Fr m.F m.F w (W.setCell ⟨p, 6, none⟩ (.int .i64 ((k : Int) + 1)))) ∧ Hid (Sto W m { s with nx := k }) ∧ Hid (Fr m.F m.F w W) := fun W hW => by
        have hS2 := hS.bel hW
        have hF2 := hfr.trans (Fr.of_bel hW)
        refine ⟨keep hW c6, (hW.2 _).trans f6, ?_, (hF2.set (.inl hpf) _ _ : Fr m.F m.F w _), hS2, hF2⟩
        have := hS2.set6 (k + 1)
        rw [HP.out] at this
        exact this
      cases b with
      | true =>
        go_wp2
        go_quiet (fail)
        obtain ⟨W2, hW2⟩ : ∃ x, x = wr.drewN nq := ⟨_, rfl⟩
        have B2 : Bel wr W2 := by rw [hW2]; exact bl_drewN (bl_refl _) _
        rw [← hW2]
        clear hW2
        obtain ⟨y6, z6, hS6, hf6, _, _⟩ := xS W2 B2
        clear xS c6 f6 c2' c3 xu xl
        go_wp2
        go_roundg (n - (k + 1))
        case measure => omega
        case rel => exact ⟨k + 1, by omega, Nat.le_refl _, (fun i hi => by rcases Nat.lt_or_ge i k with h' | h'; exact hfl.out i h'; exact .inl (by rw [show i = k by omega]; exact HB.out) : ∀ i, i < k + 1 → full s i), hS6.out, hf6.out⟩
      | false =>
        by_cases hue : u = 4294967295
        · subst hue
          go_wp2
          go_quiet (fail)
          obtain ⟨W2, hW2⟩ : ∃ x, x = wr.drewN nq := ⟨_, rfl⟩
          have B2 : Bel wr W2 := by rw [hW2]; exact bl_drewN (bl_refl _) _
          rw [← hW2]
          clear hW2
          obtain ⟨y6, z6, hS6, hf6, _, _⟩ := xS W2 B2
          clear xS c6 f6 c2' c3 xu xl
          go_wp2
          go_roundg (n - (k + 1))
          case measure => omega
          case rel => exact ⟨k + 1, by omega, Nat.le_refl _, (fun i hi => by rcases Nat.lt_or_ge i k with h' | h'; exact hfl.out i h'; exact .inr (by rw [show i = k by omega]; exact HU.out) : ∀ i, i < k + 1 → full s i), hS6.out, hf6.out⟩
        · have hue2 : ¬ (u : Int) = 4294967295 := by omega
          have hud : decide ((u : Int) = 4294967295) = false := decide_eq_false hue2
          have hub : ((u : Int) == 4294967295) = false := by simpa using hue2
          go_wp2
          go_quiet (fail)
          obtain ⟨W2, hW2⟩ : ∃ x, x = wr.drewN nq := ⟨_, rfl⟩
          have B2 : Bel wr W2 := by rw [hW2]; exact bl_drewN (bl_refl _) _
          rw [← hW2]
          clear hW2
          obtain ⟨y6, z6, _, _, hS6, hf6⟩ := xS W2 B2
          clear xS c6 f6 c2' c3 xu xl
          go_wp2
          go_ret
          exact ⟨k, rfl, ⟨by rw [HN.out]; omega, hfl.out, fun _ hf => by rcases hf with hf | hf; rw [HB.out] at hf; cases hf; rw [HU.out] at hf; cases hf; exact hue rfl⟩, hS6.out, hf6.out⟩
    · have hltz : ¬ (k : Int) < (n : Int) := by omega
      have hd : decide ((k : Int) < (n : Int)) = false := decide_eq_false hltz
      have hkn : k = n := by omega
      subst hkn
      go_wp2
      go_quiet (fail)
      obtain ⟨W2, hW2⟩ : ∃ x, x = wr.drewN nq := ⟨_, rfl⟩
      have B2 : Bel wr W2 := by rw [hW2]; exact bl_drewN (bl_refl _) _
      rw [← hW2]
      clear hW2
      have y6 := keep B2 c6
      clear c6 f6 c2
      go_wp2
      go_ret
      exact ⟨k, rfl, ⟨by rw [HN.out]; omega, hfl.out, fun h' => by rw [HN.out] at h'; omega⟩, hS.bel B2, hfr.trans (Fr.of_bel B2)⟩

end Go.Proofs.Ytnfhedmlifjlmaa
