/-
  What each function of package poly answers, and what the reference of its chapter answers: one contract a function, for every float: the answer stands in the relation of its formula to what was given; of the memory that was there nothing has turned.
-/
import Derived.Test.YtpedpgpgcmhnoaaVec
import Derived.Test.YtpedpgpgcmhnoaaCb
import Derived.Test.YtpedpgpgcmhnoaaCa
import Derived.Test.YtpedpgpgcmhnoaaPj
import Derived.Below
import Derived.WalkKit
import Derived.WalkLawsBesides
import Derived.WalkSpells
import Derived.ProofKit
import Derived.OpenShut
import Derived.Deep.RegionHeld3
namespace Go.Proofs.Ytpedpgpgcmhnoaa
open Go.ChangeShapes Go.WideShapes Go.ChangeAt Go.RowKit
set_option linter.unusedVariables false
set_option linter.unusedSimpArgs false


theorem sl_pts {W : World} {L : List Pt} {b ty : Nat} {cs : Array Value} (hb : W.heap.size = b) (hc : cs = (prRow (px L) (py L) L.length).toArray) : Sl (W.alloc (.cells cs ty)) b 0 L.length (px L) (py L) := by
  subst hb hc
  refine sl_of fun j hj => ?_
  rw [Nat.zero_add, World.cell?_alloc_new]
  simp
set_option maxHeartbeats 1000000 in
theorem cw_d (b off n cap : Nat) (xs ys : Nat → Nat) (nx ny fd : Nat) (w : World) (hs : Sl w b off n xs ys) (hp : 0 < n) (hn : n ≤ 64) (hcap : n ≤ cap) (o1 : okK .f64 nx) (o2 : okK .f64 ny) (o3 : okK .f64 fd) : Calls Try.prog 48 #[.agg #[.float .f64 nx, .float .f64 ny, .float .f64 fd], .slice (some ⟨b, off, none⟩) n cap] w fun e w' => e = .returned (.int .i64 (cwE (nx, ny, fd) xs ys n)) ∧ Bel w w' := by
  have hb0 := hs.lt hp
  cases hP : pnB (nx, ny, fd)
  · have eP : pE (nx, ny, fd) = 90 := by unfold pE; rw [hP]; rfl
    go_enter Try.func48, Try.ntmps48
    go_wp2_with (first | (go_at_call 10; refine (cchk_any _ _ _ _ o1 o2 o3).mono ?_; rintro e w' ⟨rfl, hb⟩; rw [eP]; have B := hb))
    go_ret
    exact ⟨by rw [cwE_pn hP]; rfl, bl_trans (bl_alloc (bl_refl w) _ _) B⟩
  · have eP : pE (nx, ny, fd) = 0 := by unfold pE; rw [hP]; rfl
    go_enter Try.func48, Try.ntmps48
    go_wp2_with (first | (go_at_call 10; refine (cchk_any _ _ _ _ o1 o2 o3).mono ?_; rintro e w' ⟨rfl, hb⟩; rw [eP]; have B := hb))
    have B0 := bl_trans (bl_alloc (bl_refl w) _ _) B
    clear B
    go_loopw [15] (fun i wr => ∃ k : Nat, k ≤ n ∧ i = .int .i64 k ∧ Bel w wr ∧ ∀ q, q < k → (withinK .f64 (xs q) 4787326403894837248 && withinK .f64 (ys q) 4787326403894837248) = true) (fun i _ => n - (intOf i).toNat)
    case atStart => exact ⟨0, by omega, rfl, B0, fun q hq => by omega⟩
    case round =>
      obtain ⟨k, hk, rfl, hB, hq⟩ := hrel
      by_cases hlt : k < n
      · obtain ⟨x0, x1⟩ := hs k hlt
        have x0 := keep hB x0
        have x1 := keep hB x1
        have hbb : b < wr.heap.size := Nat.lt_of_lt_of_le hb0 hB.size
        have k1 : (k : Int) < (n : Int) := by omega
        cases hw : (withinK .f64 (xs k) 4787326403894837248 && withinK .f64 (ys k) 4787326403894837248)
        all_goals go_wp2_with (first | (go_at_call 45; refine (vWithin_any _ _ _ _).mono ?_; rintro e w' ⟨rfl, hb⟩; rw [hw]; have B := hb))
        · go_ret
          exact ⟨by rw [cwE_no hP hlt hw]; rfl, bl_trans (bl_alloc hB _ _) B⟩
        · refine ⟨⟨k + 1, by omega, by go_num, bl_trans (bl_alloc hB _ _) B, fun q h => ?_⟩, by simp [intOf]; omega⟩
          rcases Nat.lt_or_ge q k with g | g
          · exact hq q g
          · rw [show q = k by omega]; exact hw
      · have hkn : k = n := by omega
        subst hkn
        go_wp2
        go_ret
        exact ⟨by rw [cwE_ok hP hq]; rfl, hB⟩
def farE (p : Pn) (L : List Pt) : Int := cwE p (px L) (py L) L.length
def plV (p : Pn) (a : Pt) : Nat := if farE p [a] = 0 then frK p a else 0
theorem farE_bd {p : Pn} {L : List Pt} (h : farE p L = 0) (o1 : okK .f64 p.1) (o2 : okK .f64 p.2.1) (o3 : okK .f64 p.2.2) (hL : ∀ q, q ∈ L → okK .f64 q.1 ∧ okK .f64 q.2) : PnB p ∧ PsB 40 L := by
  obtain ⟨h1, h2⟩ := cwE_zero h
  refine ⟨pn_bd o1 o2 o3 h1, fun q hq => ?_⟩
  obtain ⟨i, hi, rfl⟩ := List.getElem_of_mem hq
  have := h2 i hi
  have e1 : px L i = (L[i]).1 := by unfold px pt; simp [hi]
  have e2 : py L i = (L[i]).2 := by unfold py pt; simp [hi]
  rw [e1, e2] at this
  simp only [Bool.and_eq_true] at this
  obtain ⟨k1, k2⟩ := hL _ hq
  exact ⟨bd_within k1 this.1, bd_within k2 this.2⟩
set_option maxRecDepth 100000 in
set_option maxHeartbeats 1000000 in
theorem cfar_d (nx ny fd x y : Nat) (w : World) (o1 : okK .f64 nx) (o2 : okK .f64 ny) (o3 : okK .f64 fd) (ox : okK .f64 x) (oy : okK .f64 y) : Calls Try.prog 16 #[.agg #[.float .f64 nx, .float .f64 ny, .float .f64 fd], .agg #[.float .f64 x, .float .f64 y]] w fun e w' => e = .returned (.tuple #[.float .f64 (plV (nx, ny, fd) (x, y)), .int .i64 (farE (nx, ny, fd) [(x, y)])]) ∧ Bel w w' := by
  have z0_0 : (w.alloc (.cells #[.float .f64 nx, .float .f64 ny, .float .f64 fd] 26)).cell? ⟨w.heap.size, 0, none⟩ = some (.float .f64 nx) := by rw [World.cell?_alloc_new]; rfl
  replace z0_0 := up_alloc (o := .cells #[.float .f64 x, .float .f64 y] 24) z0_0
  replace z0_0 := up_alloc (o := .cells #[.float .f64 x, .float .f64 y] 24) z0_0
  have z0_1 : (w.alloc (.cells #[.float .f64 nx, .float .f64 ny, .float .f64 fd] 26)).cell? ⟨w.heap.size, 1, none⟩ = some (.float .f64 ny) := by rw [World.cell?_alloc_new]; rfl
  replace z0_1 := up_alloc (o := .cells #[.float .f64 x, .float .f64 y] 24) z0_1
  replace z0_1 := up_alloc (o := .cells #[.float .f64 x, .float .f64 y] 24) z0_1
  have z0_2 : (w.alloc (.cells #[.float .f64 nx, .float .f64 ny, .float .f64 fd] 26)).cell? ⟨w.heap.size, 2, none⟩ = some (.float .f64 fd) := by rw [World.cell?_alloc_new]; rfl
  replace z0_2 := up_alloc (o := .cells #[.float .f64 x, .float .f64 y] 24) z0_2
  replace z0_2 := up_alloc (o := .cells #[.float .f64 x, .float .f64 y] 24) z0_2
  have z1_0 : ((w.alloc (.cells #[.float .f64 nx, .float .f64 ny, .float .f64 fd] 26)).alloc (.cells #[.float .f64 x, .float .f64 y] 24)).cell? ⟨w.heap.size + 1, 0, none⟩ = some (.float .f64 x) := by rw [← (show (w.alloc (.cells #[.float .f64 nx, .float .f64 ny, .float .f64 fd] 26)).heap.size = w.heap.size + 1 by simp only [World.size_alloc]), World.cell?_alloc_new]; rfl
  replace z1_0 := up_alloc (o := .cells #[.float .f64 x, .float .f64 y] 24) z1_0
  have z1_1 : ((w.alloc (.cells #[.float .f64 nx, .float .f64 ny, .float .f64 fd] 26)).alloc (.cells #[.float .f64 x, .float .f64 y] 24)).cell? ⟨w.heap.size + 1, 1, none⟩ = some (.float .f64 y) := by rw [← (show (w.alloc (.cells #[.float .f64 nx, .float .f64 ny, .float .f64 fd] 26)).heap.size = w.heap.size + 1 by simp only [World.size_alloc]), World.cell?_alloc_new]; rfl
  replace z1_1 := up_alloc (o := .cells #[.float .f64 x, .float .f64 y] 24) z1_1
  have z2_0 : (((w.alloc (.cells #[.float .f64 nx, .float .f64 ny, .float .f64 fd] 26)).alloc (.cells #[.float .f64 x, .float .f64 y] 24)).alloc (.cells #[.float .f64 x, .float .f64 y] 24)).cell? ⟨w.heap.size + 1 + 1, 0, none⟩ = some (.float .f64 x) := by rw [← (show ((w.alloc (.cells #[.float .f64 nx, .float .f64 ny, .float .f64 fd] 26)).alloc (.cells #[.float .f64 x, .float .f64 y] 24)).heap.size = w.heap.size + 1 + 1 by simp only [World.size_alloc]), World.cell?_alloc_new]; rfl
  have z2_1 : (((w.alloc (.cells #[.float .f64 nx, .float .f64 ny, .float .f64 fd] 26)).alloc (.cells #[.float .f64 x, .float .f64 y] 24)).alloc (.cells #[.float .f64 x, .float .f64 y] 24)).cell? ⟨w.heap.size + 1 + 1, 1, none⟩ = some (.float .f64 y) := by rw [← (show ((w.alloc (.cells #[.float .f64 nx, .float .f64 ny, .float .f64 fd] 26)).alloc (.cells #[.float .f64 x, .float .f64 y] 24)).heap.size = w.heap.size + 1 + 1 by simp only [World.size_alloc]), World.cell?_alloc_new]; rfl
  have B0 : Bel w (((w.alloc (.cells #[.float .f64 nx, .float .f64 ny, .float .f64 fd] 26)).alloc (.cells #[.float .f64 x, .float .f64 y] 24)).alloc (.cells #[.float .f64 x, .float .f64 y] 24)) := bl_alloc (bl_alloc (bl_alloc (bl_refl w) _ _) _ _) _ _
  have CW := cw_d (w.heap.size + 1 + 1) 0 1 1 (px [(x, y)]) (py [(x, y)]) nx ny fd _ (sl_pts (W := ((w.alloc (.cells #[.float .f64 nx, .float .f64 ny, .float .f64 fd] 26)).alloc (.cells #[.float .f64 x, .float .f64 y] 24))) (L := [(x, y)]) (ty := 24) (cs := #[.float .f64 x, .float .f64 y]) (by simp only [World.size_alloc]) (by simp [prRow, px, py, pt, List.range_succ])) (by decide) (by decide) (by decide) o1 o2 o3
  have qf : ∀ (f : Nat) (W : World), (Instr.field 83 (.agg #[.float .f64 x, .float .f64 y, .float .f64 f]) 1).run Try.prog W = .ok (.float .f64 f) W := fun f W => by kernel_rfl
  rw [show cwE (nx, ny, fd) (px [(x, y)]) (py [(x, y)]) 1 = farE (nx, ny, fd) [(x, y)] from rfl] at CW
  unfold plV
  by_cases h0 : farE (nx, ny, fd) [(x, y)] = 0
  · obtain ⟨hp, hl⟩ := farE_bd h0 o1 o2 o3 (by intro q hq; simp at hq; rw [hq]; exact ⟨ox, oy⟩)
    have ha := hl (x, y) (by simp)
    rw [h0] at CW ⊢
    go_enter Try.func16, Try.ntmps16
    go_wp2_with (first | (go_at_call 48; refine CW.mono ?_; rintro e w' ⟨rfl, hb⟩; replace z0_0 := keep hb z0_0; replace z0_1 := keep hb z0_1; replace z0_2 := keep hb z0_2; replace z1_0 := keep hb z1_0; replace z1_1 := keep hb z1_1; have B0 := bl_trans B0 hb; clear hb) | (go_at_call 50; refine (endOf_d _ hp ha (by decide)).mono ?_; rintro e w' ⟨rfl, hb⟩; have B0 := bl_trans B0 hb))
    refine bodyPost_ret (v := .tuple #[.float .f64 (frK (nx, ny, fd) (x, y)), .int .i64 0]) (by simp [results, Try.results16, go_sem] <;> (first | exact ⟨⟨rfl, rfl⟩, rfl⟩ | exact ⟨rfl, rfl, rfl, rfl⟩ | exact ⟨rfl, rfl, rfl⟩ | exact ⟨rfl, rfl⟩ | rfl)) rfl ⟨by simp, B0⟩
  · have h0' : ¬ (farE (nx, ny, fd) [(x, y)] == 0) = true := by simpa using h0
    go_enter Try.func16, Try.ntmps16
    go_wp2_with (first | (go_at_call 48; refine CW.mono ?_; rintro e w' ⟨rfl, hb⟩; have B0 := bl_trans B0 hb; clear hb))
    refine bodyPost_ret (v := .tuple #[.float .f64 0, .int .i64 (farE (nx, ny, fd) [(x, y)])]) (by simp [results, Try.results16, go_sem] <;> (first | exact ⟨⟨rfl, rfl⟩, rfl⟩ | exact ⟨rfl, rfl, rfl, rfl⟩ | exact ⟨rfl, rfl, rfl⟩ | exact ⟨rfl, rfl⟩ | rfl)) rfl ⟨by simp [h0], B0⟩

end Go.Proofs.Ytpedpgpgcmhnoaa
