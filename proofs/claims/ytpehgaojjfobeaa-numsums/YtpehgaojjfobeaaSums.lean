/-
  The reference's Floats, Sum and SameAll over slices, by contracts: what they make, what they answer, that nothing old is written.
-/
import Derived.Test.YtpehgaojjfobeaaAlive
import Derived.WalkKit
import Derived.WalkLawsBesides
import Derived.WalkSpells
import Derived.ProofKit
import Derived.OpenShut
import Derived.Deep.QuietTactic
import Derived.BigQuiet
namespace Go.Proofs.Ytpehgaojjfobeaa
open Go.ChangeShapes Go.WideShapes Go.ChangeAt Go.RowKit

theorem info_float : (Try.prog.info? 22).map (fun i => (i.zero, i.size, i.bytes)) = some (some (.float .f64 0), 1, 8) := by kernel_rfl

/-- the cells of the first k of a row of floats -/
def flRow (xs : Nat → Nat) (k : Nat) : List Value := (List.range k).map fun j => .float .f64 (xs j)
theorem flRow_length (xs : Nat → Nat) (k : Nat) : (flRow xs k).length = k := by simp [flRow]
theorem flRow_succ (xs : Nat → Nat) (k : Nat) : flRow xs (k + 1) = flRow xs k ++ [.float .f64 (xs k)] := by simp [flRow, List.range_succ]
theorem flRow_get (xs : Nat → Nat) (k j : Nat) (h : j < k) : (flRow xs k)[j]? = some (.float .f64 (xs j)) := by simp [flRow, h]

theorem floats_step {B k : Nat} {xs : Nat → Nat} {w wr w1 : World} {v v' : Value} (hB : B ≤ wr.heap.size)
    (hown : wr.ownsRow B 22 1 v k (flRow xs k)) (hbel : Below B w wr) {o : Obj}
    (hown' : w1.ownsRow B 22 1 v' (k + 1) (flRow xs k ++ [.float .f64 (xs k)])) (hg : (wr.alloc o).grownBy w1 v.ownBlock) :
    w1.ownsRow B 22 1 v' (k + 1) (flRow xs (k + 1)) ∧ Below B w w1 := by
  rw [flRow_succ]
  refine ⟨hown', (hbel.alloc hB o).grown hg (by simp; omega) fun j hj => (hown.lt j hj).1⟩

set_option maxHeartbeats 1600000 in
set_option maxRecDepth 1000000 in
theorem floats_some (b off len cap : Nat) (xs : Nat → Nat) (w : World) (hreach : len * 8 ≤ 140737488351232) (hb : b < w.heap.size)
    (hc : ∀ j, j < len → w.cell? ⟨b, off + j, none⟩ = some (.int .u64 ((xs j : Nat) : Int))) :
    Calls Try.prog 59 #[.slice (some ⟨b, off, none⟩) len cap] w fun e w' => ∃ v, e = .returned v ∧ w'.ownsRow w.heap.size 22 1 v len (flRow xs len) ∧ Below w.heap.size w w' := by
  obtain ⟨i0, hi, hz0, hz1, hz2⟩ := info_parts info_float
  have hfr := from_run
  go_enter Try.func59, Try.ntmps59
  go_wp2
  go_loopw [3, 4] (fun v i wr => ∃ k : Nat, k ≤ len ∧ i = .int .i64 k ∧ wr.ownsRow w.heap.size 22 1 v k (flRow xs k) ∧ Below w.heap.size w wr) (fun _ i _ => len - (intOf i).toNat)
  case atStart => exact ⟨0, Nat.zero_le _, rfl, World.ownsRow_nil _ _ _ _, Below.refl _ _⟩
  case round =>
    obtain ⟨k, hk, rfl, hown, hbel⟩ := hrel
    by_cases hlt : k < len
    · have hcx : wr.cell? ⟨b, off + k, none⟩ = some (.int .u64 ((xs k : Nat) : Int)) := (hbel.cell (by exact hb)).trans (hc k hlt)
      have hsz := hbel.size
      go_wp2_with (first
        | (at_builtin; refine wpList_append_own _ rfl _ _ 61 rfl w.heap.size 22 i0 (.float .f64 0) 1 8 Try.underlying61 hi hz0 hz1 hz2 rfl (by decide) _ _ _ rfl (hown.alloc _) ⟨wr.heap.size, 0, none⟩ 1 1 [.float .f64 (xs k)] rfl rfl ?c1 ?c2 ?c3 ?c4 ?c5 ?_)
        | go_in)
      case c1 =>
        intro j u hj
        match j, hj with
        | 0, hj => simp at hj; subst hj; simp [Addr.add]
      case c2 => intro u hu; simp at hu; subst hu; rfl
      case c3 => unfold maxLen; omega
      case c4 => omega
      case c5 => simp; omega
      · intro v' w1 hown' hgrow _
        have R := floats_step hsz hown hbel hown' hgrow
        clear hown' hgrow hown hcx
        go_wp2
        go_roundw
        case rel => exact ⟨k + 1, by omega, by go_num, R.1, R.2⟩
        case measure => simp [intOf]; omega
    · have hkl : k = len := by omega
      subst hkl
      go_wp2
      go_ret
      exact ⟨_, rfl, hown, hbel⟩

theorem floats_none (a : Option Addr) (cap : Nat) (w : World) :
    Calls Try.prog 59 #[.slice a 0 cap] w fun e w' => e = .returned (.slice none 0 0) ∧ w' = w := by
  go_enter Try.func59, Try.ntmps59
  go_wp2
  refine wp_loop_rounds 1 ?_
  rw [rounds_succ]
  go_wp2
  go_ret
  exact ⟨rfl, rfl⟩

theorem rsum_some (b off n cap : Nat) (xs : Nat → Nat) (w : World) (hn : n + 1 ≤ maxLen) (hc : ∀ i, i < n + 1 → w.cell? ⟨b, off + i, none⟩ = some (.float .f64 (xs i))) :
    Calls Try.prog 60 #[.slice (some ⟨b, off, none⟩) (n + 1) cap] w fun e w' => ∃ s m, accR (xs 0) (fun i => xs (i + 1)) n s ∧ e = .returned (.float .f64 s) ∧ w' = w.drewN m := by
  unfold maxLen at hn
  have q := run_add Try.prog
  have h0 := hc 0 (by omega)
  have hz : (((n : Int) + 1) == 0) = false := by simp; omega
  simp only [Nat.add_zero] at h0
  go_enter Try.func60, Try.ntmps60
  go_wp2
  go_loopw [3, 4] (fun s i wr => ∃ k a m : Nat, k ≤ n ∧ i = .int .i64 ((k : Int) + 1) ∧ s = .float .f64 a ∧ wr = w.drewN m ∧ accR (xs 0) (fun i => xs (i + 1)) k a) (fun _ i _ => n + 1 - (intOf i).toNat)
  case atStart => exact ⟨0, xs 0, 0, by omega, rfl, rfl, rfl, accR_zero _ _⟩
  case round =>
    obtain ⟨k, a, m, hk, rfl, rfl, rfl, hacc⟩ := hrel
    by_cases hlt : k < n
    · have hcx := hc (k + 1) (by omega)
      go_wp2
      exact ⟨⟨k + 1, _, _, by omega, by go_num, rfl, rfl, accR_succ hacc (fv_res _ _ _ _ _)⟩, by simp [intOf]; omega⟩
    · have hkn : k = n := by omega
      subst hkn
      go_wp2
      go_ret
      exact ⟨a, m, hacc, rfl, rfl⟩

theorem rsum_none (v : Option Addr) (cap : Nat) (w : World) :
    Calls Try.prog 60 #[.slice v 0 cap] w fun e w' => e = .returned (.float .f64 0) ∧ w' = w := by
  go_enter Try.func60, Try.ntmps60
  go_wp2
  go_ret
  exact ⟨rfl, rfl⟩

theorem acc_same {s0 : Nat} {xs : Nat → Nat} {n s t : Nat} (h : accR s0 xs n s) (g : accR s0 xs n t) : smK .f64 s t = true := by
  obtain ⟨f, f0, fn, hf⟩ := h
  obtain ⟨u, u0, un, hu⟩ := g
  have key : ∀ i, i ≤ n → smK .f64 (f i) (u i) = true := by
    intro i
    induction i with
    | zero => intro _; rw [f0, u0]; exact smK_self ..
    | succ i ih => intro hi; exact res_congr (ih (by omega)) (smK_self _ _) (hf i (by omega)) (hu i (by omega))
  rw [← fn, ← un]
  exact key n (Nat.le_refl _)

theorem acc_ok {s0 : Nat} {xs : Nat → Nat} {n s : Nat} (h0 : okK .f64 s0) (h : accR s0 xs n s) : okK .f64 s := by
  obtain ⟨f, f0, fn, hf⟩ := h
  rw [← fn]
  cases n with
  | zero => rw [f0]; exact h0
  | succ n => exact (hf n (by omega)).1

theorem sameAll_some (b off n cap b' off' cap' : Nat) (xs : Nat → Nat) (w : World) (hn : n ≤ maxLen) (ho : ∀ i, i < n → okK .f64 (xs i)) (hc : ∀ i, i < n → w.cell? ⟨b, off + i, none⟩ = some (.float .f64 (xs i))) (hc' : ∀ i, i < n → w.cell? ⟨b', off' + i, none⟩ = some (.float .f64 (xs i))) :
    Calls Try.prog 61 #[.slice (some ⟨b, off, none⟩) n cap, .slice (some ⟨b', off', none⟩) n cap'] w fun e w' => ∃ m, e = .returned (.bool true) ∧ w' = w.drewN m := by
  unfold maxLen at hn
  have s6 := smK_self .f64
  go_enter Try.func61, Try.ntmps61
  go_wp2
  go_loopw [5] (fun i wr => ∃ k m : Nat, k ≤ n ∧ i = .int .i64 k ∧ wr = w.drewN m) (fun i _ => n - (intOf i).toNat)
  case atStart => exact ⟨0, 0, by omega, rfl, rfl⟩
  case round =>
    obtain ⟨k, m, hk, rfl, hwr⟩ := hrel
    by_cases hlt : k < n
    · have hcx : wr.cell? ⟨b, off + k, none⟩ = some (.float .f64 (xs k)) := by rw [hwr]; exact hc k hlt
      have hcy : wr.cell? ⟨b', off' + k, none⟩ = some (.float .f64 (xs k)) := by rw [hwr]; exact hc' k hlt
      have H := hide hwr
      clear hwr
      have hok := ho k hlt
      have hlt' : (k : Int) < (n : Int) := by omega
      go_wp2
      go_quiet ((go_at_call 26; exact Calls.quiet_of_same (rSame_any _ _ _ (by assumption) (by assumption))))
      go_wp2
      go_roundw
      case rel => exact ⟨k + 1, _, by omega, by go_num, by rw [unhide H, World.drewN_drewN]⟩
      case measure => simp [intOf]; omega
    · have hkn : k = n := by omega
      subst hkn
      subst hwr
      go_wp2
      go_ret
      exact ⟨_, rfl, rfl⟩

theorem sameAll_none (a a' : Option Addr) (cap cap' : Nat) (w : World) :
    Calls Try.prog 61 #[.slice a 0 cap, .slice a' 0 cap'] w fun e w' => e = .returned (.bool true) ∧ w' = w := by
  go_enter Try.func61, Try.ntmps61
  go_wp2
  refine wp_loop_rounds 1 ?_
  rw [rounds_succ]
  go_wp2
  go_ret
  exact ⟨rfl, rfl⟩

end Go.Proofs.Ytpehgaojjfobeaa
