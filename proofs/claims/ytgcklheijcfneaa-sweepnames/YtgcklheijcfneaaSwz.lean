/-
  What each function of package sweep answers, and what the reference of its chapter answers: one contract a function, for every list of boxes; of the memory that was there nothing has turned.
-/
import Derived.Test.YtgcklheijcfneaaSwy
import Derived.Test.YtgcklheijcfneaaSwv
import Derived.Below
import Derived.BigQuiet
import Derived.OwnWalk
import Derived.Laws.AppendOwn
import Derived.Laws.AppendOwnNone
import Derived.WalkKit
import Derived.WalkLawsBesides
import Derived.WalkSpells
import Derived.ProofKit
import Derived.OpenShut
import Derived.Deep.RegionHeld3
import Derived.Deep.LoopGhost
namespace Go.Proofs.Ytgcklheijcfneaa
open Go.ChangeShapes Go.WideShapes Go.ChangeAt Go.RowKit Go.Shelf Go.Lib Go.Sort
set_option linter.unusedVariables false
set_option linter.unusedSimpArgs false


theorem bet_s (b off n cap b2 off2 n2 cap2 : Nat) (B C : Nat → Bo) (w : World) (hB0 : Bs w b off n B) (hn : n ≤ 16384) (hb0 : b < w.heap.size) (hC0 : Bs w b2 off2 n2 C) (hn2 : n2 ≤ 16384) (hb2 : b2 < w.heap.size) :
    Calls Try.prog 12 #[.slice (some ⟨b, off, none⟩) n cap, .slice (some ⟨b2, off2, none⟩) n2 cap2] w fun e w' => Below w.heap.size w w' ∧ ((65536 < (refB B C n n2).length ∧ e = .returned (.tuple #[.slice none 0 0, .int .i64 4])) ∨ ((refB B C n n2).length ≤ 65536 ∧ ∃ v, e = .returned (.tuple #[v, .int .i64 0]) ∧ OwnR 2 w.heap.size w' v (refB B C n n2).length (pRow (refB B C n n2)) ∧ (refB B C n n2 = [] → v = .slice none 0 0))) := by
  refine (bet_walk b off n cap b2 off2 n2 cap2 B C w hB0 hn hb0 hC0 hn2 hb2).mono ?_
  rintro e w' ⟨F, S, hF, hS, hb, h⟩
  rw [bet_len hF hS] at h
  refine ⟨hb, ?_⟩
  rcases h with h | ⟨h1, v, L', h2, h3, h4, h5, h6⟩
  · exact .inl h
  · rw [bet_is hF hS h3 h4] at h5 h6
    exact .inr ⟨h1, v, h2, h5, h6⟩
theorem ord_fit (sa : Option Addr) (n cap : Nat) (B : Nat → Bo) (w : World) (hA : AnyB w sa n B) (hn : n ≤ 16384) :
    Calls Try.prog 11 #[.slice sa n cap] w fun e w' => ∃ v O, e = .returned (.tuple #[v, .int .i64 0]) ∧ OrdL B n O ∧ OwnR 1 w.heap.size w' v (O).length (iRow (O)) ∧ Below w.heap.size w w' := by
  refine (ord_any sa n cap B w hA).mono ?_
  rintro e w' ⟨v, O, h1, h2, h3, h4, _⟩
  rw [show mnE n = 0 by rw [mnE, if_neg (by omega)]] at h1
  exact ⟨v, O, h1, h2.2 hn, h3, h4⟩
theorem bet_many1 (sa sb : Option Addr) (n cap n2 cap2 : Nat) (w : World) (hn : 16384 < n) :
    Calls Try.prog 12 #[.slice sa n cap, .slice sb n2 cap2] w fun e w' => e = .returned (.tuple #[.slice none 0 0, .int .i64 4]) ∧ Below w.heap.size w w' := by
  go_enter Try.func12, Try.ntmps12
  go_wp2_with (first | (go_at_call 11; (with_reducible refine (ord_many sa n cap _ hn).mono ?_); rintro e w1 ⟨rfl, hb⟩))
  refine bodyPost_ret (v := .tuple #[.slice none 0 0, .int .i64 4]) (by simp [results, Try.results12, go_sem]) rfl ?_
  exact ⟨rfl, hb.1⟩
theorem bet_many2 (sa sb : Option Addr) (n cap n2 cap2 : Nat) (B : Nat → Bo) (w : World) (hA : AnyB w sa n B) (hn1 : n ≤ 16384) (hn : 16384 < n2) :
    Calls Try.prog 12 #[.slice sa n cap, .slice sb n2 cap2] w fun e w' => e = .returned (.tuple #[.slice none 0 0, .int .i64 4]) ∧ Below w.heap.size w w' := by
  go_enter Try.func12, Try.ntmps12
  go_wp2_with (first | (go_at_call 11; first | (have zn := mO; clear zn; (with_reducible refine (ord_many sb n2 cap2 _ hn).mono ?_); rintro e w2 ⟨rfl, hb⟩) | ((with_reducible refine (ord_fit sa n cap B _ hA hn1).mono ?_); rintro e w1 ⟨vF, F0, rfl, hOF, hOwF, hbl1⟩; have mO := hide True.intro)))
  refine bodyPost_ret (v := .tuple #[.slice none 0 0, .int .i64 4]) (by simp [results, Try.results12, go_sem]) rfl ?_
  exact ⟨rfl, bw_trans hbl1 hb.1⟩
set_option maxRecDepth 100000 in
set_option maxHeartbeats 4000000 in
theorem bet_none (sa sb : Option Addr) (n cap n2 cap2 : Nat) (B C : Nat → Bo) (w : World) (hA : AnyB w sa n B) (hC : AnyB w sb n2 C) (hn1 : n ≤ 16384) (hn2 : n2 ≤ 16384) (hz0 : n = 0 ∨ n2 = 0) :
    Calls Try.prog 12 #[.slice sa n cap, .slice sb n2 cap2] w fun e w' => e = .returned (.tuple #[.slice none 0 0, .int .i64 0]) ∧ Below w.heap.size w w' := by
  go_enter Try.func12, Try.ntmps12
  go_wp2_with (first | (go_at_call 11; first | (have zn := mO; clear zn; (with_reducible refine (ord_fit sb n2 cap2 C _ hC1 hn2).mono ?_); rintro e w2 ⟨vS, S0, rfl, hOS, hOwS, hbl2⟩; have L2 := bw_trans hbl1 hbl2) | ((with_reducible refine (ord_fit sa n cap B _ hA hn1).mono ?_); rintro e w1 ⟨vF, F0, rfl, hOF, hOwF, hbl1⟩; have hC1 := hC.below hbl1; have mO := hide True.intro)))
  obtain ⟨sf, cf, hvF⟩ := own_len hOwF
  obtain ⟨ss, cs, hvS⟩ := own_len hOwS
  have l1 := hOF.len
  have l2 := hOS.len
  subst hvF hvS
  obtain ⟨f1, hf1⟩ : ∃ f, F0.length = f := ⟨_, rfl⟩
  obtain ⟨f3, hf3⟩ : ∃ f, S0.length = f := ⟨_, rfl⟩
  have hz : f1 = 0 ∨ f3 = 0 := by omega
  rw [hf1, hf3]
  clear hOF hOS hOwF hOwS hf1 hf3 l1 l2 hz0
  go_loopg [6, 8, 9] 0 (fun kx s6 s8 s9 wr => s6 = .slice sf f1 cf ∧ s8 = .slice ss f3 cs ∧ s9 = .slice none 0 0 ∧ Bel w2 wr)
  case atStart => exact ⟨rfl, rfl, rfl, bl_refl _⟩
  case round =>
    obtain ⟨rfl, rfl, rfl, hWr⟩ := hrel
    have hO : OwnR 2 w2.heap.size wr (.slice none 0 0) (([] : List (Nat × Nat))).length (pRow (([] : List (Nat × Nat)))) := OwnR.nil _ _ _
    by_cases h1 : 0 < f1
    · have h1z : (0 : Int) < (f1 : Int) := by omega
      have h3 : f3 = 0 := by omega
      subst h3
      go_wp2_with (first | (go_at_call 28; (with_reducible refine (rise_s w2.heap.size _ [] _ hO (by decide)).mono ?_); rintro e w3 ⟨rfl, L', p1, p2, p3, p4⟩))
      refine bodyPost_ret (v := .tuple #[.slice none 0 0, .int .i64 0]) (by simp [results, Try.results12, go_sem]) rfl ?_
      exact ⟨rfl, (bw_trans L2 hWr.1).trans (p4.mono L2.size)⟩
    · have h3 : f1 = 0 := by omega
      subst h3
      go_wp2_with (first | (go_at_call 28; (with_reducible refine (rise_s w2.heap.size _ [] _ hO (by decide)).mono ?_); rintro e w3 ⟨rfl, L', p1, p2, p3, p4⟩))
      refine bodyPost_ret (v := .tuple #[.slice none 0 0, .int .i64 0]) (by simp [results, Try.results12, go_sem]) rfl ?_
      exact ⟨rfl, (bw_trans L2 hWr.1).trans (p4.mono L2.size)⟩
theorem refB_none {B C : Nat → Bo} {n m : Nat} (h : n = 0 ∨ m = 0) : refB B C n m = [] := by
  refine List.eq_nil_iff_forall_not_mem.2 fun x hx => ?_
  unfold refB at hx
  rw [mem_allB] at hx
  omega
theorem bet_any (sa sb : Option Addr) (n cap m cap2 : Nat) (B C : Nat → Bo) (w : World) (hA : AnyB w sa n B) (hC : AnyB w sb m C) :
    Calls Try.prog 12 #[.slice sa n cap, .slice sb m cap2] w fun e w' => ∃ v, e = .returned (.tuple #[v, .int .i64 (prE (max n m) (refB B C n m))]) ∧ OwnR 2 w.heap.size w' v (prL (max n m) (refB B C n m)).length (pRow (prL (max n m) (refB B C n m))) ∧ (prL (max n m) (refB B C n m) = [] → v = .slice none 0 0) ∧ Below w.heap.size w w' := by
  rcases Nat.lt_or_ge 16384 (max n m) with hn | hn
  · rw [show prE (max n m) (refB B C n m) = 4 by rw [prE, if_pos hn], show prL (max n m) (refB B C n m) = [] by rw [prL, if_pos hn]]
    by_cases h1 : 16384 < n
    · refine (bet_many1 sa sb n cap m cap2 w h1).mono ?_
      rintro e w' ⟨rfl, hb⟩
      exact ⟨_, rfl, OwnR.nil _ _ _, fun _ => rfl, hb⟩
    · refine (bet_many2 sa sb n cap m cap2 B w hA (by omega) (by omega)).mono ?_
      rintro e w' ⟨rfl, hb⟩
      exact ⟨_, rfl, OwnR.nil _ _ _, fun _ => rfl, hb⟩
  · have k1 : n ≤ 16384 := by omega
    have k2 : m ≤ 16384 := by omega
    by_cases hz : n = 0 ∨ m = 0
    · rw [refB_none hz]
      rw [show prE (max n m) [] = 0 by rw [prE, if_neg (by omega), if_neg (by simp)], show prL (max n m) [] = [] by rw [prL, if_neg (by omega), if_neg (by simp)]]
      refine (bet_none sa sb n cap m cap2 B C w hA hC k1 k2 hz).mono ?_
      rintro e w' ⟨rfl, hb⟩
      exact ⟨_, rfl, OwnR.nil _ _ _, fun _ => rfl, hb⟩
    · rcases hA with h0 | ⟨b, off, rfl, hB, hb⟩
      · exact absurd (.inl h0) hz
      rcases hC with h0 | ⟨b2, off2, rfl, hC, hb2⟩
      · exact absurd (.inr h0) hz
      refine (bet_s b off n cap b2 off2 m cap2 B C w hB k1 hb hC k2 hb2).mono ?_
      rintro e w' ⟨hb, ⟨h1, rfl⟩ | ⟨h1, v, rfl, h2, h3⟩⟩
      · rw [show prE (max n m) (refB B C n m) = 4 by rw [prE, if_neg (by omega), if_pos h1], show prL (max n m) (refB B C n m) = [] by rw [prL, if_neg (by omega), if_pos h1]]
        exact ⟨_, rfl, OwnR.nil _ _ _, fun _ => rfl, hb⟩
      · rw [show prE (max n m) (refB B C n m) = 0 by rw [prE, if_neg (by omega), if_neg (by omega)], show prL (max n m) (refB B C n m) = refB B C n m by rw [prL, if_neg (by omega), if_neg (by omega)]]
        exact ⟨v, rfl, h2, h3, hb⟩
theorem me_sym (a b : Bo) : meO a b = meO b a := by
  unfold meO; rw [ov_sym, Bool.and_comm (mayO a)]
theorem refB_len (B C : Nat → Bo) (n m : Nat) : (refB B C n m).length = (refB C B m n).length := by
  have h := lex_len (l := (refB B C n m).map fun x => (x.2, x.1)) (r := refB C B m n) ?_ lex_allB ?_
  · rwa [List.length_map] at h
  · rw [List.Nodup, List.pairwise_map]
    refine List.Pairwise.imp (fun {a b} h e => ?_) (lex_allB (B := B) (C := C) (p := fun _ _ => true) (m := m) (n := n))
    injection e with e1 e2
    unfold lexO at h
    omega
  · rintro ⟨x, y⟩
    unfold refB
    rw [List.mem_map, mem_allB]
    constructor
    · rintro ⟨⟨u, v⟩, hu, e⟩
      rw [mem_allB] at hu
      injection e with e1 e2
      simp only at e1 e2
      subst e1 e2
      exact ⟨hu.2.1, hu.1, rfl, by rw [me_sym]; exact hu.2.2.2⟩
    · rintro ⟨h1, h2, _, h4⟩
      exact ⟨(y, x), (mem_allB _).2 ⟨h2, h1, rfl, by rw [me_sym]; exact h4⟩, rfl⟩

end Go.Proofs.Ytgcklheijcfneaa
