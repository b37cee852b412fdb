/-
  What each function of package sweep answers, and what the reference of its chapter answers: one contract a function, for every list of boxes; of the memory that was there nothing has turned.
-/
import Derived.Test.YtkkncipimbpkkaaSwr
import Derived.Test.YtkkncipimbpkkaaSwt
import Derived.Below
import Derived.BigQuiet
import Derived.OwnWalk
import Derived.Laws.AppendOwn
import Derived.Laws.AppendOwnNone
import Derived.WalkKit
import Derived.WalkLawsBesides
import Derived.WalkSpells
import Derived.ProofKit
import Derived.OpenShut
import Derived.Deep.RegionHeld3
import Derived.Deep.LoopGhost
namespace Go.Proofs.Ytkkncipimbpkkaa
open Go.ChangeShapes Go.WideShapes Go.ChangeAt Go.RowKit Go.Shelf Go.Lib Go.Sort
set_option linter.unusedVariables false
set_option linter.unusedSimpArgs false


set_option maxHeartbeats 8000000 in
theorem rord_any (sa : Option Addr) (n cap : Nat) (B : Nat → Bo) (w : World) (hA : AnyB w sa n B) :
    Calls Try.prog 21 #[.slice sa n cap] w fun e w' => ∃ v O, e = .returned (.tuple #[v, .int .i64 (mnE n)]) ∧ OrdR B n O ∧ OwnR 1 w.heap.size w' v (O).length (iRow (O)) ∧ Bel w w' := by
  rcases Nat.lt_or_ge 16384 n with hn | hn
  · have hn1 : (16384 : Int) < (n : Int) := by omega
    rw [show mnE n = 4 by rw [mnE, if_pos hn]]
    go_enter Try.func21, Try.ntmps21
    go_wp2
    refine bodyPost_ret (v := .tuple #[.slice none 0 0, .int .i64 4]) (by simp [results, Try.results21, go_sem]) rfl ?_
    exact ⟨_, [], rfl, ⟨fun _ => rfl, fun h => by omega⟩, OwnR.nil _ _ _, bl_refl w⟩
  · have hn1 : ¬ (16384 : Int) < (n : Int) := by omega
    rw [show mnE n = 0 by rw [mnE, if_neg (by omega)]]
    have mixed : Try.prog.follows Departure.mixedOrders = true := by kernel_rfl
    have clt := cmp_lt .f64
    go_enter Try.func21, Try.ntmps21
    go_wp2
    go_loopg [4, 5] n (fun kx s4 s5 wr => ∃ (i : Nat) (d : Array Nat), s5 = .int .i64 i ∧ i ≤ n ∧ n - i ≤ kx ∧ OwnR 1 w.heap.size wr s4 d.size (iRow d.toList) ∧ Bel w wr ∧ Hid (SoF B i d))
    case atStart => exact ⟨0, #[], rfl, by omega, by omega, OwnR.nil _ _ _, bl_refl _, List.Perm.refl _, fun i j h1 h2 h3 => absurd h3 (by simp)⟩
    case round =>
      obtain ⟨i, d, rfl, hin, hkx, hO, hW, hS⟩ := hrel
      by_cases hlt : i < n
      · have hltz : (i : Int) < (n : Int) := by omega
        have hwk : IntKind.wrap .i64 ((i : Int) + 1) = (i : Int) + 1 := by rw [IntKind.wrap_i64]; omega
        obtain ⟨b, off, hsa, hB, hb0⟩ : ∃ b off, sa = some ⟨b, off, none⟩ ∧ Bs w b off n B ∧ b < w.heap.size := by
          rcases hA with h0 | h0
          · omega
          · exact h0
        clear hA
        subst hsa
        obtain ⟨x0, x1, x2, x3⟩ := (hB.bel hW) i hlt
        obtain ⟨kb, hkb⟩ : ∃ k, chkN (bChk (B i).1 (B i).2.1 (B i).2.2.1 (B i).2.2.2) = k := ⟨_, rfl⟩
        have kB : ∀ W, Calls Try.prog 36 #[.agg #[.float .f64 (B i).1, .float .f64 (B i).2.1, .float .f64 (B i).2.2.1, .float .f64 (B i).2.2.2]] W fun e w' => e = .returned (.int .i64 kb) ∧ Bel W w' := fun W => by rw [← hkb]; exact rCheck_any _ _ _ _ W
        have cm := chk_may (B i)
        rw [hkb] at cm
        clear hkb
        cases hm : mayO (B i) with
        | false =>
          rw [hm] at cm
          have cn : (kb != 0) = true := by simp at cm; simp [cm]
          have HM : Hid _ := hm
          clear hm cm
          go_wp2_with (first | (go_at_call 36; (with_reducible refine (kB _).mono ?_); rintro e w1 ⟨rfl, hb⟩))
          go_roundg (n - (i + 1))
          case measure => omega
          case rel => exact ⟨i + 1, d, by go_num, by omega, Nat.le_refl _, hO.bel hb, bl_trans hW hb, hS.out.no HM.out⟩
        | true =>
          rw [hm] at cm
          have cn : (kb != 0) = false := by simp at cm; simp [cm]
          have HM : Hid _ := hm
          clear hm cm
          have hdl := hS.out.len
          have hsw := hW.size
          have hmem : ∀ p, p < d.size → d[p]! < n ∧ mayO (B d[p]!) = true := fun p hp => ⟨Nat.lt_trans (hS.out.mem hp).1 hlt, (hS.out.mem hp).2⟩
          obtain ⟨dn, hdn⟩ : ∃ q, d.size = q := ⟨_, rfl⟩
          have hSy := hS.out.yes HM.out
          rw [hdn] at hdl hSy
          have hO9 := hO
          rw [hdn] at hO9
          obtain ⟨T, hT⟩ : ∃ T, insInner (ltX B) 0 dn (d.push i) = T := ⟨_, rfl⟩
          rw [hT] at hSy
          have HT : Hid (insInner (ltX B) 0 dn (d.push i) = T) := hT
          have HSY : Hid (SoF B (i + 1) T) := hSy
          have HME : Hid (∀ p, p < dn + 1 → (d.push i)[p]! < n ∧ mayO (B (d.push i)[p]!) = true) := fun p hp => by
            rcases Nat.lt_or_ge p dn with h | h
            · rw [push_get (by omega)]; exact hmem p (by omega)
            · have : p = d.size := by omega
              subst this; rw [push_last]; exact ⟨hlt, HM.out⟩
          have HDN : Hid (d.size = dn) := hdn
          clear hT hSy hmem hO hS hdn
          have hwd : IntKind.wrap .i64 ((dn : Int) + 1 - 1) = (dn : Int) := by rw [IntKind.wrap_i64]; omega
          go_wp2_with (first | (go_at_call 36; (with_reducible refine (kB _).mono ?_); rintro e w1 ⟨rfl, hb⟩; have hO' := (hO9.bel hb).bel (bl_alloc (bl_refl w1) #[.int .i64 (i : Int)] 3); have hsz := hb.size) | (at_builtin; refine wpList_appR (P := Try.prog) (sz := 1) (by_ := 8) (R := iRow (d.toList)) (N := [.int .i64 (i : Int)]) 33 3 rfl _ _ rfl Try.underlying33 info_int rfl rfl _ 0 1 1 rfl hO' rfl (mk_rw _ [.int .i64 (i : Int)] 3) (by intro u hu; simp only [List.mem_cons, List.not_mem_nil, or_false] at hu; subst hu; rfl) (by decide) (by simp only [World.size_alloc]; omega) (by unfold maxLen; omega) (by omega) ?_; intro v2 wx hO4 hv2 hbX; obtain ⟨g, c, rfl⟩ := hv2; have B3 := hbX w (bl_alloc (bl_trans hW hb) _ _) (Nat.le_refl _)))
          replace hO4 : OwnR 1 w.heap.size wx (.slice (some ⟨g, 0, none⟩) (dn + 1) c) (dn + 1) (iRow (d.push i).toList) := by
            rw [Array.toList_push, iRow_app]; exact hO4
          have hpsz : (d.push i).size = dn + 1 := by rw [Array.size_push, HDN.out]
          go_loopg [6] dn (fun kx s6 wr => ∃ (jj : Nat) (dj : Array Nat), s6 = .int .i64 jj ∧ jj ≤ dn ∧ jj ≤ kx ∧ dj.size = dn + 1 ∧ OwnR 1 w.heap.size wr (.slice (some ⟨g, 0, none⟩) (dn + 1) c) (dn + 1) (iRow dj.toList) ∧ Bel w wr ∧ Hid (∀ p, p < dn + 1 → dj[p]! < n ∧ mayO (B dj[p]!) = true) ∧ Hid (insInner (ltX B) 0 jj dj = T))
          case atStart => exact ⟨dn, d.push i, by first | rfl | go_num, Nat.le_refl _, Nat.le_refl _, hpsz, hO4, B3, HME, HT⟩
          case round =>
            clear hO4 B3 hpsz
            obtain ⟨jj, dj, rfl, hjd, hjx, hds, hOj, hWj, hMj, hIj⟩ := hrel
            have fin : (jj = 0 ∨ ltX B dj[jj]! dj[jj - 1]! = false) → Hid (SoF B (i + 1) dj) := fun h => by
              have e := hIj.out
              rw [insInner_stp h] at e
              show SoF B (i + 1) dj
              rw [e]; exact HSY.out
            have FIN : Aside _ := fin
            clear fin
            by_cases hj0 : jj = 0
            · subst hj0
              haveI := belBy_some wr
              go_wp2
              refine wp_region_quiet_bel (by kernel_rfl) (by kernel_rfl) ?_
              repeat (go_big_quiet_step (fail))
              refine wpQuiet_nil ?_
              rintro _ ⟨nq, rfl⟩
              go_wp2
              have hb2 := nq.h
              go_roundg (n - (i + 1))
              case measure => omega
              case rel => exact ⟨i + 1, dj, by go_num, by omega, Nat.le_refl _, by rw [hds]; exact hOj.bel hb2, bl_trans hWj hb2, FIN.out (.inl (by first | rfl | trivial))⟩
            · obtain ⟨jp, hjp⟩ : ∃ q, q + 1 = jj := ⟨jj - 1, by omega⟩
              have hjz : (0 : Int) < (jj : Int) := by omega
              have hjn : 0 < jj := by omega
              have hjw : IntKind.wrap .i64 ((jj : Int) - 1) = (jp : Int) := by rw [IntKind.wrap_i64]; omega
              have hjl : (jj : Int) < (dn : Int) + 1 := by omega
              have hjl2 : (jp : Int) < (dn : Int) + 1 := by omega
              obtain ⟨x, hx⟩ : ∃ x, dj[jj]! = x := ⟨_, rfl⟩
              obtain ⟨y, hy⟩ : ∃ y, dj[jp]! = y := ⟨_, rfl⟩
              obtain ⟨hxn, mx⟩ := hMj.out jj (by omega)
              obtain ⟨hyn, my⟩ := hMj.out jp (by omega)
              rw [hx] at hxn mx
              rw [hy] at hyn my
              have hxz : (x : Int) < (n : Int) := by omega
              have hyz : (y : Int) < (n : Int) := by omega
              have hIs := own_is hOj
              have cx := hIs jj x (by rw [Array.getElem?_toList, Array.getElem?_eq_getElem (by omega), ← hx, getElem!_pos dj jj (by omega)])
              have cy := hIs jp y (by rw [Array.getElem?_toList, Array.getElem?_eq_getElem (by omega), ← hy, getElem!_pos dj jp (by omega)])
              rw [Nat.zero_add] at cx cy
              have fx := ((hB.bel hWj) x hxn).1
              have fy := ((hB.bel hWj) y hyn).1
              have hlk := lt_ltX mx my
              haveI := belBy_some wr
              have y0 := belBy_cell cx
              have y1 := belBy_cell cy
              have y2 := belBy_cell fx
              have y3 := belBy_cell fy
              have HX : Hid (dj[jj]! = x) := hx
              have HY : Hid (dj[jp]! = y) := hy
              clear hx hy mx my
              cases hl : ltX B x y with
              | false =>
                rw [hl] at hlk
                have HL : Hid (ltX B x y = false) := hl
                clear hl
                go_wp2
                refine wp_region_quiet_bel (by kernel_rfl) (by kernel_rfl) ?_
                repeat (go_big_quiet_step (fail))
                refine wpQuiet_nil ?_
                rintro _ ⟨nq, rfl⟩
                go_wp2
                have hb2 := nq.h
                go_roundg (n - (i + 1))
                case measure => omega
                case rel => exact ⟨i + 1, dj, by go_num, by omega, Nat.le_refl _, by rw [hds]; exact hOj.bel hb2, bl_trans hWj hb2, FIN.out (.inr (by rw [HX.out, show jj - 1 = jp by omega, HY.out]; exact HL.out))⟩
              | true =>
                rw [hl] at hlk
                have HL : Hid (ltX B x y = true) := hl
                clear hl
                go_wp2
                refine wp_region_quiet_bel (by kernel_rfl) (by kernel_rfl) ?_
                repeat (go_big_quiet_step (fail))
                refine wpQuiet_nil ?_
                rintro _ ⟨nq, rfl⟩
                have hb2 := nq.h
                clear y0 y1 y2 y3 this
                obtain ⟨w2, hw2⟩ : ∃ w2, w2 = nq.world := ⟨_, rfl⟩
                rw [← hw2] at hb2
                rw [← hw2]
                clear hw2 nq
                have hOj2 := hOj.bel hb2
                have hW2 := bl_trans hWj hb2
                have d1 := keepB hb2 cx
                have d2 := keepB hb2 cy
                obtain ⟨pg, _, _, _, _, pf⟩ := own_parts hOj2
                have f1 := pf jj
                have f2 := pf jp
                have c3 : (w2.setCell ⟨g, jj, none⟩ (.int .i64 (y : Int))).cell? ⟨g, jp, none⟩ = some (.int .i64 (y : Int)) := by
                  rw [World.cell?_setCell_other _ _ _ _ (by intro e'; injection e' with _ e2 _; omega)]; exact d2
                have f3 : (w2.setCell ⟨g, jj, none⟩ (.int .i64 (y : Int))).frozen? ⟨g, jp, none⟩ = false := (World.frozen?_setCell _ _ _ _).trans f2
                have hO5 := own_swp (i := jj) (j := jp) hOj2 (by omega) (by omega)
                rw [HX.out, HY.out] at hO5
                have hB5 : Bel w ((w2.setCell ⟨g, jj, none⟩ (.int .i64 (y : Int))).setCell ⟨g, jp, none⟩ (.int .i64 (x : Int))).drew := bl_drew (bl_set (bl_set hW2 pg) pg)
                have HO5 : Aside _ := hO5
                have HB5 : Aside _ := hB5
                clear hO5 hB5 hOj2 hOj hIs pf
                go_wp2_with fail
                go_big_region_o
                generalize ((w2.setCell ⟨g, jj, none⟩ (.int .i64 (y : Int))).setCell ⟨g, jp, none⟩ (.int .i64 (x : Int))).drew = w3 at HO5 HB5 ⊢
                go_wp2
                go_roundg jp
                case measure => omega
                case rel =>
                  refine ⟨jp, swp dj jj jp, by first | rfl | go_num, by omega, Nat.le_refl _, by rw [swp_size]; exact hds, HO5.out, HB5.out, fun p hp => ?_, (show _ = _ from ?_)⟩
                  · rw [swp_get dj (by omega) (by omega)]
                    split
                    · exact hMj.out jj (by omega)
                    · split
                      · exact hMj.out jp (by omega)
                      · exact hMj.out p hp
                  · rw [← hIj.out, ← hjp, insInner_goo (by rw [hjp, HX.out, HY.out]; exact HL.out)]
      · have hltz : ¬ (i : Int) < (n : Int) := by omega
        have hkn : i = n := by omega
        subst hkn
        go_wp2
        refine bodyPost_ret (v := .tuple #[u4, .int .i64 0]) (by simp [results, Try.results21, go_sem]) rfl ?_
        first | exact ⟨_, d.toList, rfl, ⟨fun h => by omega, fun _ => hS.out.ord⟩, hO, hW⟩ | exact ⟨_, rfl, d.toList, ⟨fun h => by omega, fun _ => hS.out.ord⟩, hO, hW⟩

end Go.Proofs.Ytkkncipimbpkkaa
