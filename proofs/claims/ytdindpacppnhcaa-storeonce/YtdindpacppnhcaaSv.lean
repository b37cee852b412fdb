/-
  What each function of package store answers, and what its memory holds afterwards: one contract a function; of the memory that was there only the store's own blocks have turned.
-/
import Derived.Test.YtdindpacppnhcaaChecked
import Derived.Test.YtdindpacppnhcaaSu
import Derived.Test.YtdindpacppnhcaaSi
import Derived.Test.YtdindpacppnhcaaAl
import Derived.Below
import Derived.BigQuiet
import Derived.OwnWalk
import Derived.Laws.AppendOwn
import Derived.Laws.AppendOwnNone
import Derived.WalkKit
import Derived.WalkLawsBesides
import Derived.WalkSpells
import Derived.ProofKit
import Derived.OpenShut
import Derived.Deep.RegionHeld3
import Derived.Deep.LoopGhost
import Derived.Laws.StructEq
import Derived.Lib.Builder
import Derived.Deep.DeepCutAuto
import Derived.Lib.SliceRun
import Derived.Laws.MakeOwn
namespace Go.Proofs.Ytdindpacppnhcaa
open Go.ChangeShapes Go.WideShapes Go.ChangeAt Go.RowKit Go.Lib
set_option linter.unusedVariables false
set_option linter.unusedSimpArgs false
set_option maxRecDepth 100000
set_option maxHeartbeats 4000000


theorem once17 (z : Int) (sa : Option Addr) (n cap : Nat) (Y : Nat → Int) (w : World) (hA : AnyI w sa n Y) (hn : n ≤ 140737488355328) : Calls Try.prog 5 #[.int .i64 z, .slice sa n cap] w fun e w' => e = .returned (.bool true) ∧ Below w.heap.size w w' := by
  obtain ⟨K, hK⟩ : ∃ K, upN z 50 = K := ⟨_, rfl⟩
  have hK50 := (upN_is z 50 (by decide)).2
  have hup50 := up_s z 50 (x := 50) rfl (by decide) (by decide)
  rw [hK] at hK50 hup50
  clear hK
  have ewK : IntKind.wrap .i64 ((K : Int) + 1) = (K : Int) + 1 := by rw [IntKind.wrap_i64]; omega
  go_enter Try.func5, Try.ntmps5
  go_upto_region 4 with (first | (go_at_call 7; (with_reducible refine (alive17 _).mono ?_); rintro e w1 ⟨rfl, hb1⟩))
  have hnew := new_dI (K + 1) (by omega) (by omega) w1 (x := (K : Int) + 1) (by omega)
  go_upto_region 10 with (first | (go_at_call 21; (with_reducible refine (hup50 _).mono ?_); rintro e w1b ⟨rfl, hw1b⟩; rw [hw1b]; clear hw1b) | (go_at_call 8; (with_reducible refine hnew.mono ?_); rintro e w2 ⟨p, rfl, hp, hS0, hb2⟩))
  have hOn0 := hide (On.start (w0 := w) hS0 (Nat.le_trans hb1.size hp) (hb1.trans (hb2.1.mono hb1.size)))
  have hIv0 := hide (Ivs.start (most := K + 1) (by omega) (by omega))
  clear hS0 hb1 hb2 hp hnew
  go_wp2
  go_loopg [8, 9, 10, 11] 200 (fun kx s8 s9 s10 s11 wr => ∃ (i hl : Nat) (m : Sm) (s : Ss) (sh : Option Addr) (ch : Nat) (sx : Option Addr) (cx : Nat) (sb : Option Addr) (cb : Nat) (H : List (Nat × Nat)) (X : List Int) (B : List Bool), s8 = .slice sh hl ch ∧ s9 = .slice sx hl cx ∧ s10 = .slice sb hl cb ∧ s11 = .int .i64 (i : Int) ∧ i ≤ 200 ∧ i ≤ n ∧ 200 - i ≤ kx ∧ hl ≤ i ∧ Hid (H.length = hl) ∧ Hid (m.p = p) ∧ Hid (s.most = K + 1) ∧ Hid (On w wr m s sh ch sx cx sb cb H X B) ∧ Hid (Ivs s H X B i))
  case atStart => exact ⟨0, 0, ⟨p, none, 0, none, 0, none, 0⟩, ⟨K + 1, 0, 0, [], [], []⟩, none, 0, none, 0, none, 0, [], [], [], rfl, rfl, rfl, rfl, by omega, by omega, by omega, Nat.le_refl _, rfl, rfl, rfl, hOn0.out, hIv0.out⟩
  case round =>
    clear hOn0 hIv0
    obtain ⟨i, hl, m, s, sh, ch, sx, cx, sb, cb, H, X, B, rfl, rfl, rfl, rfl, hi200, hin, hikx, hhl, HH, HP, HM, hOn, hIv⟩ := hrel
    have ewi : IntKind.wrap .i64 ((i : Int) + 1) = (i : Int) + 1 := by rw [IntKind.wrap_i64]; omega
    by_cases hend : i < n ∧ i < 200
    · obtain ⟨hi1, hi2⟩ := hend
      have hz1 : (i : Int) < (n : Int) := by omega
      have hz2 : (i : Int) < 200 := by omega
      obtain ⟨b0, off, hsa, hcs, hbl⟩ : ∃ b off, sa = some ⟨b, off, none⟩ ∧ (∀ i, i < n → w.cell? ⟨b, off + i, none⟩ = some (.int .i64 (Y i))) ∧ b < w.heap.size := by
        rcases hA with h' | h'
        · omega
        · exact h'
      subst hsa
      have xa := (hOn.out.low.cell (p := ⟨b0, off + i, none⟩) hbl).trans (hcs i hi1)
      by_cases hneg : Y i < 0
      · by_cases hl0 : 0 < hl
        · have hlz : (0 : Int) < (hl : Int) := by omega
          as_aux_lemma =>
            have hka := upN_is (Y i) hl hl0
            obtain ⟨k, hk⟩ : ∃ k, upN (Y i) hl = k := ⟨_, rfl⟩
            have hup := up_s (Y i) hl (x := (hl : Int)) rfl hl0 (by omega)
            rw [hk] at hka hup
            have hkl : k < hl := hka.2
            have hkz : (k : Int) < (hl : Int) := by omega
            clear hka hk
            obtain ⟨gh, hgh, _⟩ := hOn.out.rh.at (by rw [HH.out]; omega)
            obtain ⟨gx, hgx, _⟩ := hOn.out.rx.at (by rw [hIv.out.lx, HH.out]; omega)
            obtain ⟨gb, hgb, _⟩ := hOn.out.rb.at (by rw [hIv.out.lb, HH.out]; omega)
            subst hgh hgx hgb
            obtain ⟨⟨a, b⟩, hab⟩ := get_of_lt (l := H) (i := k) (by rw [HH.out]; exact hkl)
            obtain ⟨x, hx⟩ := get_of_lt (l := X) (i := k) (by rw [hIv.out.lx, HH.out]; exact hkl)
            obtain ⟨c, hc⟩ := get_of_lt (l := B) (i := k) (by rw [hIv.out.lb, HH.out]; exact hkl)
            obtain ⟨hsl, hub, hnm⟩ := hIv.out.sl k a b hab
            have h0 := hOn.out.rh.cell (hRow_get H k a b hab).1
            have h1 := hOn.out.rh.cell (hRow_get H k a b hab).2
            have hau : a < 4294967296 := by have := hIv.out.ok.um; have := hIv.out.ok.m2; omega
            have hbu : b < 4294967296 := by
              rcases get_of_lt hsl with ⟨u, hu⟩
              have := hIv.out.ok.uo u (List.mem_of_getElem? hu)
              rw [getD_lt hu] at hub
              omega
            have Hab := hide hab
            have Hc := hide hc
            have Hx := hide hx
            have Hnm := hide hnm
            have hth := hide (hIv.out.th k a b x hab)
            clear hab hc hx hnm hsl hub
            have hlen16 : k < B.length := by rw [hIv.out.lb, HH.out]; exact hkl
            have Hkb := hide hlen16
            clear hlen16
            cases c with
            | true =>
              have hn := Hnm.out.1 Hc.out
              have htk := take_dI hOn.out.st hIv.out.ok HP.out (a := a) (b := b) rfl rfl hau hbu hn (hth.out Hc.out Hx.out)
              have hIv2 := hide ((hIv.out.take Hab.out hn (.int .i64 0)))
              have Hn := hide hn
              clear hn Hnm hth
              go_upto_region 16 with (first | (go_at_call 21; (with_reducible refine (hup _).mono ?_); rintro e w1b ⟨rfl, hw1b⟩; rw [hw1b]; clear hw1b) | (go_at_call 12; (with_reducible refine htk.mono ?_); rintro e w2 ⟨rfl, hS2, hf2⟩))
              have hOn2 := hide (hOn.out.sto hS2 hf2)
              have hB2 := hide (hOn2.out.setB rfl Hkb.out false)
              have yb := hOn2.out.rb.cell (i := k) (u := .bool true) (by rw [lRow_get, Hc.out]; rfl)
              have yx := hOn2.out.rx.cell (i := k) (u := .int .i64 x) (by rw [xRow_get, Hx.out]; rfl)
              have yf := (own_at hOn2.out.rb.own (o := k) (by have := Hkb.out; omega)).2
              clear h0 h1 hS2 hf2 hOn hIv xa htk hup
              go_wp2
              go_roundg (200 - (i + 1))
              case measure => omega
              case rel => exact ⟨i + 1, hl, m, takeS s a (.int .i64 0), some ⟨gh, 0, none⟩, ch, some ⟨gx, 0, none⟩, cx, some ⟨gb, 0, none⟩, cb, H, X, B.set k false, rfl, rfl, rfl, by go_num, by omega, by omega, Nat.le_refl _, by omega, HH, HP, HM, hB2, hIv2⟩
            | false =>
              have hn : ¬ Named s a b := fun hn => by have := Hnm.out.2 hn; rw [Hc.out] at this; cases this
              have htk := take_nI hOn.out.st hIv.out.ok HP.out (a := a) (b := b) rfl rfl hau hbu hn
              have hBe : B.set k false = B := set_false (by rw [Hc.out]; simp)
              have hBe2 := hide hBe
              clear hn Hnm hth hBe
              go_upto_region 16 with (first | (go_at_call 21; (with_reducible refine (hup _).mono ?_); rintro e w1b ⟨rfl, hw1b⟩; rw [hw1b]; clear hw1b) | (go_at_call 12; (with_reducible refine htk.mono ?_); rintro e w2 ⟨rfl, hS2, hf2⟩))
              have hOn2 := hide (hOn.out.sto hS2 hf2)
              have hB2 := hide (hOn2.out.setB rfl Hkb.out false)
              have yb := hOn2.out.rb.cell (i := k) (u := .bool false) (by rw [lRow_get, Hc.out]; rfl)
              have yf := (own_at hOn2.out.rb.own (o := k) (by have := Hkb.out; omega)).2
              clear h0 h1 hS2 hf2 hOn xa htk hup
              go_wp2
              go_roundg (200 - (i + 1))
              case measure => omega
              case rel => exact ⟨i + 1, hl, m, s, some ⟨gh, 0, none⟩, ch, some ⟨gx, 0, none⟩, cx, some ⟨gb, 0, none⟩, cb, H, X, B.set k false, rfl, rfl, rfl, by go_num, by omega, by omega, Nat.le_refl _, by omega, HH, HP, HM, hB2, (by rw [hBe2.out]; exact hIv.out.more (by omega))⟩
        · have hlz : ¬ (0 : Int) < (hl : Int) := by omega
          obtain ⟨k, hk⟩ := next_ex s
          have hle := hk.le
          have hum := hIv.out.ok.um
          replace hk := hide hk
          by_cases hkm : k < s.most
          · obtain ⟨u, hu⟩ : ∃ u, s.U.getD k 0 + 1 = u := ⟨_, rfl⟩
            have Hu := hide hu
            clear hu
            as_aux_lemma =>
              have hput := put_dI hOn.out.st hIv.out.ok (Y i) HP.out hk.out hkm (a := (k : Int)) (b := (u : Int)) rfl (by rw [Hu.out])
              go_upto_region 20 with (first | (go_at_call 9; (with_reducible refine hput.mono ?_); rintro e w2 ⟨rfl, m2, HP2, hS2, hf2⟩))
              have b3 := st_bel (W := w2) #[.int .u32 (k : Int), .int .u32 (u : Int)] 29
              have q0 : (w2.alloc (.cells #[.int .u32 (k : Int), .int .u32 (u : Int)] 29)).cell? ⟨w2.heap.size, 0, none⟩ = some (.int .u32 (k : Int)) := by rw [World.cell?_alloc_new]; rfl
              have q1 : (w2.alloc (.cells #[.int .u32 (k : Int), .int .u32 (u : Int)] 29)).cell? ⟨w2.heap.size, 1, none⟩ = some (.int .u32 (u : Int)) := by rw [World.cell?_alloc_new]; rfl
              have hOn3 := hide ((hOn.out.sto hS2 hf2).bel b3)
              replace HP2 := hide HP2
              clear hput hS2 hf2 hOn
              obtain ⟨q, hq⟩ : ∃ q, q = w2.heap.size := ⟨_, rfl⟩
              obtain ⟨W3, hW3⟩ : ∃ x, x = w2.alloc (.cells #[.int .u32 (k : Int), .int .u32 (u : Int)] 29) := ⟨_, rfl⟩
              rw [← hq, ← hW3] at q0 q1
              rw [← hW3] at hOn3
              rw [← hq, ← hW3]
              clear hq hW3 b3
              have hmk : ∀ W, (Instr.makeSlice 34 (.int .i64 ((K : Int) + 2)) (.int .i64 ((K : Int) + 2))).run Try.prog W = .ok (.slice (some ⟨W.heap.size, 0, none⟩) (K + 2) (K + 2)) (W.alloc (.cells (Array.replicate (K + 2) (.bool false)) 4)) := fun W => by
                have := make_bool (K + 2) (by omega) W
                rwa [show ((K + 2 : Nat) : Int) = (K : Int) + 2 by omega] at this
              have ewK2 : IntKind.wrap .i64 ((K : Int) + 2) = (K : Int) + 2 := by rw [IntKind.wrap_i64]; omega
              have b4 := st_bel (W := W3) (Array.replicate (K + 2) (.bool false)) 4
              have hR4 : Hid (Ro 1 (W3.alloc (.cells (Array.replicate (K + 2) (.bool false)) 4)) (some ⟨W3.heap.size, 0, none⟩) (K + 2) (K + 2) (lRow (List.replicate (K + 2) false))) := by
                have h := Ro.new1 (W := W3) (List.replicate (K + 2) (.bool false)) 4 (by simp; unfold maxLen; omega)
                simp only [List.length_replicate, List.toArray_replicate] at h
                rw [show lRow (List.replicate (K + 2) false) = List.replicate (K + 2) (.bool false) by simp [lRow]]
                exact h
              have hgq : q ≠ W3.heap.size := fun e => by have := World.block_lt_of_cell? _ _ q0; simp only at this; omega
              have hg0 : w.heap.size ≤ W3.heap.size := hOn3.out.fr.size
              have hgd : ∀ k, k ∈ [W3.heap.size] → k ∉ m2.F ∧ k ∉ ob sh ∧ k ∉ ob sx ∧ k ∉ ob sb := fun k hk => by
                simp only [List.mem_cons, List.not_mem_nil, or_false] at hk
                subst hk
                exact ⟨fun e => Nat.lt_irrefl _ (hOn3.out.st.sz _ e), fun e => Nat.lt_irrefl _ (hOn3.out.rh.lt _ e), fun e => Nat.lt_irrefl _ (hOn3.out.rx.lt _ e), fun e => Nat.lt_irrefl _ (hOn3.out.rb.lt _ e)⟩
              have hgw : ∀ k, k ∈ [W3.heap.size] → w.heap.size ≤ k := fun k hk => by
                simp only [List.mem_cons, List.not_mem_nil, or_false] at hk
                subst hk
                exact hg0
              have hOn4 := hide (hOn3.out.bel b4)
              replace q0 := keep b4 q0
              replace q1 := keep b4 q1
              clear hOn3
              go_upto_region 21 with (first | (go_at_call 21; (with_reducible refine (hup50 _).mono ?_); rintro e w1b ⟨rfl, hw1b⟩; rw [hw1b]; clear hw1b))
              obtain ⟨g, hg⟩ : ∃ g, g = W3.heap.size := ⟨_, rfl⟩
              obtain ⟨W4, hW4⟩ : ∃ x, x = W3.alloc (.cells (Array.replicate (K + 2) (.bool false)) 4) := ⟨_, rfl⟩
              rw [← hg, ← hW4] at hR4
              rw [← hW4] at hOn4 q0 q1
              rw [← hg] at hgq hg0 hgd hgw
              rw [← hg, ← hW4]
              replace hgd := hide hgd
              replace hgw := hide hgw
              replace hgq := hide hgq
              clear hg hW4 b4 hmk
              go_wp2
              go_loopg [18] hl (fun kx s18 wr => ∃ (j : Nat) (D : List Bool), s18 = .int .i64 (j : Int) ∧ j ≤ hl ∧ hl - j ≤ kx ∧ Hid (D.length = K + 2) ∧ Hid (UsedTo H B j D) ∧ Hid (Ro 1 wr (some ⟨g, 0, none⟩) (K + 2) (K + 2) (lRow D)) ∧ Hid (Fr [g] [g] W4 wr))
              case atStart => exact ⟨0, _, rfl, Nat.zero_le _, Nat.le_refl _, (show _ = _ by simp), used_nil H B (K + 2), hR4.out, Fr.refl _ _⟩
              case round =>
                obtain ⟨j, D, rfl, hj, hjx, HD, hUs, hRd, hfd⟩ := hrel
                have hOnr := hide (hOn4.out.fr' hfd.out hgd.out hgw.out)
                have z0 := hfd.out.cell (fun e => hgq.out (by simpa using e)) q0
                have z1 := hfd.out.cell (fun e => hgq.out (by simpa using e)) q1
                by_cases hjl : j < hl
                · exact absurd hjl (by omega)
                · have hjz : ¬ (j : Int) < (hl : Int) := by omega
                  have hjn : hl = j := by omega
                  subst hjn
                  have hLv : ∀ t, t < K + 2 → (D[t]? = some true ↔ s.L[t]? = some true) := fun t ht => by
                    have hU := hUs.out
                    rw [← HH.out] at hU
                    exact hU.live hIv.out (by rw [HD.out]; exact ht)
                  obtain ⟨hl1, hl2⟩ := hIv.out.least hi200 hk.out
                  have hkK : k ≤ K + 1 := by have := HM.out; omega
                  have xD : Hid (∀ t, t < k → wr.cell? ⟨g, t, none⟩ = some (.bool true)) := (fun t ht => hRd.out.cell (by rw [lRow_get, (hLv t (by omega)).2 (hl1 t ht)]; rfl) : ∀ t, t < k → wr.cell? ⟨g, t, none⟩ = some (.bool true))
                  have xk : wr.cell? ⟨g, k, none⟩ = some (.bool false) := by
                    obtain ⟨d, hd⟩ := get_of_lt (l := D) (i := k) (by rw [HD.out]; omega)
                    have : d = false := by
                      cases d with
                      | false => rfl
                      | true => exact absurd ((hLv k (by omega)).1 hd) hl2
                    subst this
                    exact hRd.out.cell (by rw [lRow_get, hd]; rfl)
                  replace q0 := z0
                  replace q1 := z1
                  clear hLv hl1 hl2 hUs HD hRd hfd z0 z1 hR4 hOn4
                  obtain ⟨W5, hW5⟩ : ∃ x, x = wr := ⟨_, rfl⟩
                  have hOn5 := hOnr
                  rw [← hW5] at hOn5 xD xk q0 q1 ⊢
                  clear hW5 hOnr
                  have hkz2 : (k : Int) < ((K + 2 : Nat) : Int) := by omega
                  have hkz3 : (k : Int) < (K : Int) + 2 := by omega
                  have ewk : IntKind.wrap .i64 (k : Int) = (k : Int) := by rw [IntKind.wrap_i64]; omega
                  go_wp2
                  go_loopg [19] k (fun kx s19 wr => ∃ t : Nat, s19 = .int .i64 (t : Int) ∧ t ≤ k ∧ k - t ≤ kx ∧ wr = W5)
                  case atStart => exact ⟨0, rfl, Nat.zero_le _, Nat.le_refl _, rfl⟩
                  case round =>
                    obtain ⟨t, rfl, ht, htx, hwr⟩ := hrel
                    rw [hwr]
                    clear hwr
                    by_cases htk : t < k
                    · have xt := xD.out t htk
                      have htz : (t : Int) < ((K + 2 : Nat) : Int) := by omega
                      have htz2 : (t : Int) < (K : Int) + 2 := by omega
                      have ewt : IntKind.wrap .i64 ((t : Int) + 1) = (t : Int) + 1 := by rw [IntKind.wrap_i64]; omega
                      go_wp2
                      go_roundg (k - (t + 1))
                      case measure => omega
                      case rel => exact ⟨t + 1, by go_num, by omega, Nat.le_refl _, rfl⟩
                    · have htk2 : k = t := by omega
                      subst htk2
                      have hRo : ∀ c t, Ro 2 (W5.alloc (.cells c t)) sh hl ch (hRow H) := fun c t => by have := hOn5.out.rh.bel (st_bel (W := W5) c t); rwa [HH.out] at this
                      have hon : ∀ c t, Hid (On w (W5.alloc (.cells c t)) m2 (putS s k (.int .i64 (Y i))) sh ch sx cx sb cb H X B) := fun c t => hOn5.out.bel (st_bel c t)
                      have e1 : hl + 1 ≤ maxLen := by unfold maxLen; omega
                      have e2 : (hl + 1) * 8 ≤ 140737488355328 := by omega
                      have e3 : ∀ v ∈ [Value.int .u32 (k : Int), Value.int .u32 (u : Int)], v.oneCell' = true := hRow_one k u
                      have e4 := mk_rw W5 [.int .u32 (k : Int), .int .u32 (u : Int)] 29
                      obtain ⟨sh6, ch6, w6, hrun, hR6, hf6⟩ := Ro.app (P := Try.prog) 50 50 29 Try.underlying50 info_han rfl (by decide) W5.heap.size 0 1 1 (hRo _ _) rfl e4 e3 (by decide) e1 e2
                      go_upto_region 37 with (first | (at_builtin; refine wpList_run 50 (.tmp 185) (.tmp 187) rfl rfl rfl rfl hrun ?_))
                      have hOn6 := hide ((hon _ _).out.appH (H' := H ++ [(k, u)]) (by rw [List.length_append, HH.out, hRow_app]; exact hR6) hf6)
                      have xa6 := (hOn6.out.low.cell (p := ⟨b0, off + i, none⟩) hbl).trans (hcs i hi1)
                      clear hrun hR6 hf6 hon hRo hOn5 q0 q1
                      have hRo : ∀ c t, Ro 1 (w6.alloc (.cells c t)) sx hl cx (xRow X) := fun c t => by have := hOn6.out.rx.bel (st_bel (W := w6) c t); rwa [hIv.out.lx, HH.out] at this
                      have hon : ∀ c t, Hid (On w (w6.alloc (.cells c t)) m2 (putS s k (.int .i64 (Y i))) sh6 ch6 sx cx sb cb (H ++ [(k, u)]) X B) := fun c t => hOn6.out.bel (st_bel c t)
                      obtain ⟨sx7, cx7, w7, hrun, hR7, hf7⟩ := Ro.app (P := Try.prog) 35 35 3 Try.underlying35 info_I rfl (by decide) w6.heap.size 0 1 1 (hRo _ _) (N := [.int .i64 (Y i)]) rfl (mk_rw w6 [.int .i64 (Y i)] 3) (by intro v hv; simp only [List.mem_cons, List.not_mem_nil, or_false] at hv; subst hv; rfl) (by decide) e1 e2
                      go_upto_region 38 with (first | (at_builtin; refine wpList_run 35 (.tmp 189) (.tmp 194) rfl rfl rfl rfl hrun ?_))
                      have hOn7 := hide ((hon _ _).out.appX (X' := X ++ [Y i]) (by rw [List.length_append, hIv.out.lx, HH.out, xRow_app]; exact hR7) hf7)
                      clear hrun hR7 hf7 hon hRo hOn6 xa6
                      have hRo : ∀ c t, Ro 1 (w7.alloc (.cells c t)) sb hl cb (lRow B) := fun c t => by have := hOn7.out.rb.bel (st_bel (W := w7) c t); rwa [hIv.out.lb, HH.out] at this
                      have hon : ∀ c t, Hid (On w (w7.alloc (.cells c t)) m2 (putS s k (.int .i64 (Y i))) sh6 ch6 sx7 cx7 sb cb (H ++ [(k, u)]) (X ++ [Y i]) B) := fun c t => hOn7.out.bel (st_bel c t)
                      obtain ⟨sb8, cb8, w8, hrun, hR8, hf8⟩ := Ro.app (P := Try.prog) 34 34 4 Try.underlying34 info_bool rfl (by decide) w7.heap.size 0 1 1 (hRo _ _) (N := [.bool true]) rfl (mk_rw w7 [.bool true] 4) (by intro v hv; simp only [List.mem_cons, List.not_mem_nil, or_false] at hv; subst hv; rfl) (by decide) e1 (by omega)
                      go_upto_region 39 with (first | (at_builtin; refine wpList_run 34 (.tmp 196) (.tmp 197) rfl rfl rfl rfl hrun ?_))
                      have hOn8 := hide ((hon _ _).out.appB (B' := B ++ [true]) (by rw [List.length_append, hIv.out.lb, HH.out, lRow_app]; exact hR8) hf8)
                      clear hrun hR8 hf8 hon hRo hOn7
                      have hIv8 := hide (hIv.out.put hi200 hk.out hkm (Y i))
                      rw [Hu.out] at hIv8
                      obtain ⟨H8, hH8⟩ : ∃ x, x = H ++ [(k, u)] := ⟨_, rfl⟩
                      obtain ⟨X8, hX8⟩ : ∃ x, x = X ++ [Y i] := ⟨_, rfl⟩
                      obtain ⟨B8, hB8⟩ : ∃ x, x = B ++ [true] := ⟨_, rfl⟩
                      obtain ⟨S8, hS8⟩ : ∃ x, x = putS s k (.int .i64 (Y i)) := ⟨_, rfl⟩
                      obtain ⟨n8, hn8⟩ : ∃ x, x = hl + 1 := ⟨_, rfl⟩
                      have HH8 : Hid (H8.length = n8) := by show H8.length = n8; rw [hH8, hn8, List.length_append, HH.out]; rfl
                      have HM8 : Hid (S8.most = K + 1) := by rw [hS8]; exact HM
                      rw [← hH8, ← hX8, ← hB8, ← hS8] at hOn8 hIv8
                      have hn8i : n8 ≤ i + 1 := by omega
                      rw [← hn8]
                      clear hH8 hX8 hB8 hS8 hn8 hIv Hu hk hkm hle hum HH HM
                      go_wp2
                      go_loopg [20] n8 (fun kx s20 wr => ∃ j : Nat, s20 = .int .i64 (j : Int) ∧ j ≤ n8 ∧ n8 - j ≤ kx ∧ Hid (On w wr m2 S8 sh6 ch6 sx7 cx7 sb8 cb8 H8 X8 B8))
                      case atStart => exact ⟨0, rfl, Nat.zero_le _, Nat.le_refl _, hOn8.out⟩
                      case round =>
                        clear hOn8
                        obtain ⟨j, rfl, hj, hjx, hOn9⟩ := hrel
                        by_cases hjl : j < n8
                        · have hjz : (j : Int) < (n8 : Int) := by omega
                          have ewj : IntKind.wrap .i64 ((j : Int) + 1) = (j : Int) + 1 := by rw [IntKind.wrap_i64]; omega
                          obtain ⟨gh, hgh, _⟩ := hOn9.out.rh.at (by rw [HH8.out]; omega)
                          obtain ⟨gx, hgx, _⟩ := hOn9.out.rx.at (by rw [hIv8.out.lx, HH8.out]; omega)
                          obtain ⟨gb, hgb, _⟩ := hOn9.out.rb.at (by rw [hIv8.out.lb, HH8.out]; omega)
                          subst hgh hgx hgb
                          obtain ⟨⟨a, b⟩, hab⟩ := get_of_lt (l := H8) (i := j) (by rw [HH8.out]; exact hjl)
                          obtain ⟨x, hx⟩ := get_of_lt (l := X8) (i := j) (by rw [hIv8.out.lx, HH8.out]; exact hjl)
                          obtain ⟨c, hc⟩ := get_of_lt (l := B8) (i := j) (by rw [hIv8.out.lb, HH8.out]; exact hjl)
                          obtain ⟨hsl, hub, hnm⟩ := hIv8.out.sl j a b hab
                          have h0 := hOn9.out.rh.cell (hRow_get H8 j a b hab).1
                          have h1 := hOn9.out.rh.cell (hRow_get H8 j a b hab).2
                          have yb := hOn9.out.rb.cell (i := j) (u := .bool c) (by rw [lRow_get, hc]; rfl)
                          have yx := hOn9.out.rx.cell (i := j) (u := .int .i64 x) (by rw [xRow_get, hx]; rfl)
                          have hau : a < 4294967296 := by have := hIv8.out.ok.um; have := hIv8.out.ok.m2; omega
                          have hbu : b < 4294967296 := by
                            rcases get_of_lt hsl with ⟨u', hu'⟩
                            have := hIv8.out.ok.uo u' (List.mem_of_getElem? hu')
                            rw [getD_lt hu'] at hub
                            omega
                          have hth := hide (hIv8.out.th j a b x hab)
                          have Hx := hide hx
                          have Hc := hide hc
                          clear hab hsl hub hx hc
                          cases c with
                          | true =>
                            have hgt := get_dI hOn9.out.st hIv8.out.ok HP2.out (a := a) (b := b) rfl rfl hau hbu (hnm.1 Hc.out) (hth.out Hc.out Hx.out)
                            clear hnm hth
                            go_wp2_with (first | (go_at_call 22; (with_reducible refine hgt.mono ?_); rintro e w10 ⟨rfl, hb10⟩; replace yb := keep hb10 yb; replace yx := keep hb10 yx))
                            go_roundg (n8 - (j + 1))
                            case measure => omega
                            case rel => exact ⟨j + 1, by go_num, by omega, Nat.le_refl _, hOn9.out.bel hb10⟩
                          | false =>
                            have hgt := get_nI hOn9.out.st hIv8.out.ok HP2.out (a := a) (b := b) rfl rfl hau hbu (fun hn => by have := hnm.2 hn; rw [Hc.out] at this; cases this)
                            clear hnm hth
                            go_wp2_with (first | (go_at_call 22; (with_reducible refine hgt.mono ?_); rintro e w10 ⟨rfl, hb10⟩; replace yb := keep hb10 yb; replace yx := keep hb10 yx))
                            go_roundg (n8 - (j + 1))
                            case measure => omega
                            case rel => exact ⟨j + 1, by go_num, by omega, Nat.le_refl _, hOn9.out.bel hb10⟩
                        · have hjz : ¬ (j : Int) < (n8 : Int) := by omega
                          go_wp2
                          go_roundg (200 - (i + 1))
                          case measure => omega
                          case rel => exact ⟨i + 1, n8, m2, S8, sh6, ch6, sx7, cx7, sb8, cb8, H8, X8, B8, rfl, rfl, rfl, by go_num, by omega, by omega, Nat.le_refl _, hn8i, HH8, HP2, HM8, hOn9, hIv8⟩
          · replace hkm : k = s.most := by omega
            as_aux_lemma =>
              have hput := put_nI hOn.out.st hIv.out.ok (Y i) HP.out hk.out hkm
              have Hkm := hide hkm
              clear hkm
              go_upto_region 20 with (first | (go_at_call 9; (with_reducible refine hput.mono ?_); rintro e w2 ⟨rfl, m2, HP2, hS2, hf2⟩))
              have b3 := st_bel (W := w2) #[.int .u32 0, .int .u32 0] 29
              have q0 : (w2.alloc (.cells #[.int .u32 0, .int .u32 0] 29)).cell? ⟨w2.heap.size, 0, none⟩ = some (.int .u32 0) := by rw [World.cell?_alloc_new]; rfl
              have q1 : (w2.alloc (.cells #[.int .u32 0, .int .u32 0] 29)).cell? ⟨w2.heap.size, 1, none⟩ = some (.int .u32 0) := by rw [World.cell?_alloc_new]; rfl
              have hOn3 := hide ((hOn.out.sto hS2 hf2).bel b3)
              replace HP2 := hide HP2
              clear hput hS2 hf2 hOn
              obtain ⟨q, hq⟩ : ∃ q, q = w2.heap.size := ⟨_, rfl⟩
              obtain ⟨W3, hW3⟩ : ∃ x, x = w2.alloc (.cells #[.int .u32 0, .int .u32 0] 29) := ⟨_, rfl⟩
              rw [← hq, ← hW3] at q0 q1
              rw [← hW3] at hOn3
              rw [← hq, ← hW3]
              clear hq hW3 b3
              have hmk : ∀ W, (Instr.makeSlice 34 (.int .i64 ((K : Int) + 2)) (.int .i64 ((K : Int) + 2))).run Try.prog W = .ok (.slice (some ⟨W.heap.size, 0, none⟩) (K + 2) (K + 2)) (W.alloc (.cells (Array.replicate (K + 2) (.bool false)) 4)) := fun W => by
                have := make_bool (K + 2) (by omega) W
                rwa [show ((K + 2 : Nat) : Int) = (K : Int) + 2 by omega] at this
              have ewK2 : IntKind.wrap .i64 ((K : Int) + 2) = (K : Int) + 2 := by rw [IntKind.wrap_i64]; omega
              have b4 := st_bel (W := W3) (Array.replicate (K + 2) (.bool false)) 4
              have hR4 : Hid (Ro 1 (W3.alloc (.cells (Array.replicate (K + 2) (.bool false)) 4)) (some ⟨W3.heap.size, 0, none⟩) (K + 2) (K + 2) (lRow (List.replicate (K + 2) false))) := by
                have h := Ro.new1 (W := W3) (List.replicate (K + 2) (.bool false)) 4 (by simp; unfold maxLen; omega)
                simp only [List.length_replicate, List.toArray_replicate] at h
                rw [show lRow (List.replicate (K + 2) false) = List.replicate (K + 2) (.bool false) by simp [lRow]]
                exact h
              have hgq : q ≠ W3.heap.size := fun e => by have := World.block_lt_of_cell? _ _ q0; simp only at this; omega
              have hg0 : w.heap.size ≤ W3.heap.size := hOn3.out.fr.size
              have hgd : ∀ k, k ∈ [W3.heap.size] → k ∉ m2.F ∧ k ∉ ob sh ∧ k ∉ ob sx ∧ k ∉ ob sb := fun k hk => by
                simp only [List.mem_cons, List.not_mem_nil, or_false] at hk
                subst hk
                exact ⟨fun e => Nat.lt_irrefl _ (hOn3.out.st.sz _ e), fun e => Nat.lt_irrefl _ (hOn3.out.rh.lt _ e), fun e => Nat.lt_irrefl _ (hOn3.out.rx.lt _ e), fun e => Nat.lt_irrefl _ (hOn3.out.rb.lt _ e)⟩
              have hgw : ∀ k, k ∈ [W3.heap.size] → w.heap.size ≤ k := fun k hk => by
                simp only [List.mem_cons, List.not_mem_nil, or_false] at hk
                subst hk
                exact hg0
              have hOn4 := hide (hOn3.out.bel b4)
              replace q0 := keep b4 q0
              replace q1 := keep b4 q1
              clear hOn3
              go_upto_region 21 with (first | (go_at_call 21; (with_reducible refine (hup50 _).mono ?_); rintro e w1b ⟨rfl, hw1b⟩; rw [hw1b]; clear hw1b))
              obtain ⟨g, hg⟩ : ∃ g, g = W3.heap.size := ⟨_, rfl⟩
              obtain ⟨W4, hW4⟩ : ∃ x, x = W3.alloc (.cells (Array.replicate (K + 2) (.bool false)) 4) := ⟨_, rfl⟩
              rw [← hg, ← hW4] at hR4
              rw [← hW4] at hOn4 q0 q1
              rw [← hg] at hgq hg0 hgd hgw
              rw [← hg, ← hW4]
              replace hgd := hide hgd
              replace hgw := hide hgw
              replace hgq := hide hgq
              clear hg hW4 b4 hmk
              go_wp2
              go_loopg [18] hl (fun kx s18 wr => ∃ (j : Nat) (D : List Bool), s18 = .int .i64 (j : Int) ∧ j ≤ hl ∧ hl - j ≤ kx ∧ Hid (D.length = K + 2) ∧ Hid (UsedTo H B j D) ∧ Hid (Ro 1 wr (some ⟨g, 0, none⟩) (K + 2) (K + 2) (lRow D)) ∧ Hid (Fr [g] [g] W4 wr))
              case atStart => exact ⟨0, _, rfl, Nat.zero_le _, Nat.le_refl _, (show _ = _ by simp), used_nil H B (K + 2), hR4.out, Fr.refl _ _⟩
              case round =>
                obtain ⟨j, D, rfl, hj, hjx, HD, hUs, hRd, hfd⟩ := hrel
                have hOnr := hide (hOn4.out.fr' hfd.out hgd.out hgw.out)
                have z0 := hfd.out.cell (fun e => hgq.out (by simpa using e)) q0
                have z1 := hfd.out.cell (fun e => hgq.out (by simpa using e)) q1
                by_cases hjl : j < hl
                · exact absurd hjl (by omega)
                · have hjz : ¬ (j : Int) < (hl : Int) := by omega
                  have hjn : hl = j := by omega
                  subst hjn
                  have hLv : ∀ t, t < K + 2 → (D[t]? = some true ↔ s.L[t]? = some true) := fun t ht => by
                    have hU := hUs.out
                    rw [← HH.out] at hU
                    exact hU.live hIv.out (by rw [HD.out]; exact ht)
                  obtain ⟨hl1, hl2⟩ := hIv.out.least hi200 hk.out
                  have hkK : k ≤ K + 1 := by have := HM.out; omega
                  have xD : Hid (∀ t, t < k → wr.cell? ⟨g, t, none⟩ = some (.bool true)) := (fun t ht => hRd.out.cell (by rw [lRow_get, (hLv t (by omega)).2 (hl1 t ht)]; rfl) : ∀ t, t < k → wr.cell? ⟨g, t, none⟩ = some (.bool true))
                  have xk : wr.cell? ⟨g, k, none⟩ = some (.bool false) := by
                    obtain ⟨d, hd⟩ := get_of_lt (l := D) (i := k) (by rw [HD.out]; omega)
                    have : d = false := by
                      cases d with
                      | false => rfl
                      | true => exact absurd ((hLv k (by omega)).1 hd) hl2
                    subst this
                    exact hRd.out.cell (by rw [lRow_get, hd]; rfl)
                  replace q0 := z0
                  replace q1 := z1
                  clear hLv hl1 hl2 hUs HD hRd hfd z0 z1 hR4 hOn4
                  obtain ⟨W5, hW5⟩ : ∃ x, x = wr := ⟨_, rfl⟩
                  have hOn5 := hOnr
                  rw [← hW5] at hOn5 xD xk q0 q1 ⊢
                  clear hW5 hOnr
                  have hkz2 : (k : Int) < ((K + 2 : Nat) : Int) := by omega
                  have hkz3 : (k : Int) < (K : Int) + 2 := by omega
                  have ewk : IntKind.wrap .i64 (k : Int) = (k : Int) := by rw [IntKind.wrap_i64]; omega
                  go_wp2
                  go_loopg [19] k (fun kx s19 wr => ∃ t : Nat, s19 = .int .i64 (t : Int) ∧ t ≤ k ∧ k - t ≤ kx ∧ wr = W5)
                  case atStart => exact ⟨0, rfl, Nat.zero_le _, Nat.le_refl _, rfl⟩
                  case round =>
                    obtain ⟨t, rfl, ht, htx, hwr⟩ := hrel
                    rw [hwr]
                    clear hwr
                    by_cases htk : t < k
                    · have xt := xD.out t htk
                      have htz : (t : Int) < ((K + 2 : Nat) : Int) := by omega
                      have htz2 : (t : Int) < (K : Int) + 2 := by omega
                      have ewt : IntKind.wrap .i64 ((t : Int) + 1) = (t : Int) + 1 := by rw [IntKind.wrap_i64]; omega
                      go_wp2
                      go_roundg (k - (t + 1))
                      case measure => omega
                      case rel => exact ⟨t + 1, by go_num, by omega, Nat.le_refl _, rfl⟩
                    · have htk2 : k = t := by omega
                      subst htk2
                      have hkK2 : ¬ ((k : Int) ≤ (K : Int)) := by have := Hkm.out; have := HM.out; omega
                      go_wp2_with (first | (go_at_call 21; (with_reducible refine (hup50 _).mono ?_); rintro e w1b ⟨rfl, hw1b⟩; rw [hw1b]; clear hw1b))
                      go_roundg (200 - (i + 1))
                      case measure => omega
                      case rel => exact ⟨i + 1, hl, m2, { s with nx := k }, sh, ch, sx, cx, sb, cb, H, X, B, rfl, rfl, rfl, by go_num, by omega, by omega, Nat.le_refl _, by omega, HH, HP2, HM, hOn5, (hIv.out.nx hk.out).more (by omega)⟩
      · obtain ⟨k, hk⟩ := next_ex s
        have hle := hk.le
        have hum := hIv.out.ok.um
        replace hk := hide hk
        by_cases hkm : k < s.most
        · obtain ⟨u, hu⟩ : ∃ u, s.U.getD k 0 + 1 = u := ⟨_, rfl⟩
          have Hu := hide hu
          clear hu
          as_aux_lemma =>
            have hput := put_dI hOn.out.st hIv.out.ok (Y i) HP.out hk.out hkm (a := (k : Int)) (b := (u : Int)) rfl (by rw [Hu.out])
            go_upto_region 20 with (first | (go_at_call 9; (with_reducible refine hput.mono ?_); rintro e w2 ⟨rfl, m2, HP2, hS2, hf2⟩))
            have b3 := st_bel (W := w2) #[.int .u32 (k : Int), .int .u32 (u : Int)] 29
            have q0 : (w2.alloc (.cells #[.int .u32 (k : Int), .int .u32 (u : Int)] 29)).cell? ⟨w2.heap.size, 0, none⟩ = some (.int .u32 (k : Int)) := by rw [World.cell?_alloc_new]; rfl
            have q1 : (w2.alloc (.cells #[.int .u32 (k : Int), .int .u32 (u : Int)] 29)).cell? ⟨w2.heap.size, 1, none⟩ = some (.int .u32 (u : Int)) := by rw [World.cell?_alloc_new]; rfl
            have hOn3 := hide ((hOn.out.sto hS2 hf2).bel b3)
            replace HP2 := hide HP2
            clear hput hS2 hf2 hOn
            obtain ⟨q, hq⟩ : ∃ q, q = w2.heap.size := ⟨_, rfl⟩
            obtain ⟨W3, hW3⟩ : ∃ x, x = w2.alloc (.cells #[.int .u32 (k : Int), .int .u32 (u : Int)] 29) := ⟨_, rfl⟩
            rw [← hq, ← hW3] at q0 q1
            rw [← hW3] at hOn3
            rw [← hq, ← hW3]
            clear hq hW3 b3
            have hmk : ∀ W, (Instr.makeSlice 34 (.int .i64 ((K : Int) + 2)) (.int .i64 ((K : Int) + 2))).run Try.prog W = .ok (.slice (some ⟨W.heap.size, 0, none⟩) (K + 2) (K + 2)) (W.alloc (.cells (Array.replicate (K + 2) (.bool false)) 4)) := fun W => by
              have := make_bool (K + 2) (by omega) W
              rwa [show ((K + 2 : Nat) : Int) = (K : Int) + 2 by omega] at this
            have ewK2 : IntKind.wrap .i64 ((K : Int) + 2) = (K : Int) + 2 := by rw [IntKind.wrap_i64]; omega
            have b4 := st_bel (W := W3) (Array.replicate (K + 2) (.bool false)) 4
            have hR4 : Hid (Ro 1 (W3.alloc (.cells (Array.replicate (K + 2) (.bool false)) 4)) (some ⟨W3.heap.size, 0, none⟩) (K + 2) (K + 2) (lRow (List.replicate (K + 2) false))) := by
              have h := Ro.new1 (W := W3) (List.replicate (K + 2) (.bool false)) 4 (by simp; unfold maxLen; omega)
              simp only [List.length_replicate, List.toArray_replicate] at h
              rw [show lRow (List.replicate (K + 2) false) = List.replicate (K + 2) (.bool false) by simp [lRow]]
              exact h
            have hgq : q ≠ W3.heap.size := fun e => by have := World.block_lt_of_cell? _ _ q0; simp only at this; omega
            have hg0 : w.heap.size ≤ W3.heap.size := hOn3.out.fr.size
            have hgd : ∀ k, k ∈ [W3.heap.size] → k ∉ m2.F ∧ k ∉ ob sh ∧ k ∉ ob sx ∧ k ∉ ob sb := fun k hk => by
              simp only [List.mem_cons, List.not_mem_nil, or_false] at hk
              subst hk
              exact ⟨fun e => Nat.lt_irrefl _ (hOn3.out.st.sz _ e), fun e => Nat.lt_irrefl _ (hOn3.out.rh.lt _ e), fun e => Nat.lt_irrefl _ (hOn3.out.rx.lt _ e), fun e => Nat.lt_irrefl _ (hOn3.out.rb.lt _ e)⟩
            have hgw : ∀ k, k ∈ [W3.heap.size] → w.heap.size ≤ k := fun k hk => by
              simp only [List.mem_cons, List.not_mem_nil, or_false] at hk
              subst hk
              exact hg0
            have hOn4 := hide (hOn3.out.bel b4)
            replace q0 := keep b4 q0
            replace q1 := keep b4 q1
            clear hOn3
            go_upto_region 21 with (first | (go_at_call 21; (with_reducible refine (hup50 _).mono ?_); rintro e w1b ⟨rfl, hw1b⟩; rw [hw1b]; clear hw1b))
            obtain ⟨g, hg⟩ : ∃ g, g = W3.heap.size := ⟨_, rfl⟩
            obtain ⟨W4, hW4⟩ : ∃ x, x = W3.alloc (.cells (Array.replicate (K + 2) (.bool false)) 4) := ⟨_, rfl⟩
            rw [← hg, ← hW4] at hR4
            rw [← hW4] at hOn4 q0 q1
            rw [← hg] at hgq hg0 hgd hgw
            rw [← hg, ← hW4]
            replace hgd := hide hgd
            replace hgw := hide hgw
            replace hgq := hide hgq
            clear hg hW4 b4 hmk
            go_wp2
            go_loopg [18] hl (fun kx s18 wr => ∃ (j : Nat) (D : List Bool), s18 = .int .i64 (j : Int) ∧ j ≤ hl ∧ hl - j ≤ kx ∧ Hid (D.length = K + 2) ∧ Hid (UsedTo H B j D) ∧ Hid (Ro 1 wr (some ⟨g, 0, none⟩) (K + 2) (K + 2) (lRow D)) ∧ Hid (Fr [g] [g] W4 wr))
            case atStart => exact ⟨0, _, rfl, Nat.zero_le _, Nat.le_refl _, (show _ = _ by simp), used_nil H B (K + 2), hR4.out, Fr.refl _ _⟩
            case round =>
              obtain ⟨j, D, rfl, hj, hjx, HD, hUs, hRd, hfd⟩ := hrel
              have hOnr := hide (hOn4.out.fr' hfd.out hgd.out hgw.out)
              have z0 := hfd.out.cell (fun e => hgq.out (by simpa using e)) q0
              have z1 := hfd.out.cell (fun e => hgq.out (by simpa using e)) q1
              by_cases hjl : j < hl
              · have hjz : (j : Int) < (hl : Int) := by omega
                have ewj : IntKind.wrap .i64 ((j : Int) + 1) = (j : Int) + 1 := by rw [IntKind.wrap_i64]; omega
                obtain ⟨gh, hgh, _⟩ := hOnr.out.rh.at (by rw [HH.out]; omega)
                obtain ⟨gb, hgb, _⟩ := hOnr.out.rb.at (by rw [hIv.out.lb, HH.out]; omega)
                subst hgh hgb
                obtain ⟨⟨a, b⟩, hab⟩ := get_of_lt (l := H) (i := j) (by rw [HH.out]; exact hjl)
                obtain ⟨c, hc⟩ := get_of_lt (l := B) (i := j) (by rw [hIv.out.lb, HH.out]; exact hjl)
                obtain ⟨hsl, hub, _⟩ := hIv.out.sl j a b hab
                have h0 := hOnr.out.rh.cell (hRow_get H j a b hab).1
                have h1 := hOnr.out.rh.cell (hRow_get H j a b hab).2
                have yb := hOnr.out.rb.cell (i := j) (u := .bool c) (by rw [lRow_get, hc]; rfl)
                have haK : a < K + 2 := by have := hIv.out.ok.um; have := HM.out; omega
                have haz : (a : Int) < (K : Int) + 2 := by omega
                have haz2 : (a : Int) < ((K + 2 : Nat) : Int) := by omega
                have ewa : IntKind.wrap .i64 (a : Int) = (a : Int) := by rw [IntKind.wrap_i64]; omega
                have Hab := hide hab
                have Hc := hide hc
                have xg := own_at hRd.out.own (o := a) (by omega)
                obtain ⟨⟨ug, xg⟩, xgf⟩ := xg
                have hst := hide (hRd.out.put (o := a) (by omega) (.bool true))
                have hsf := hide (hfd.out.set (g := g) (.inl (by simp)) a (.bool true))
                have hne : ((a : Int) == (k : Int)) = false ∨ (((a : Int) == (k : Int)) = true ∧ ((b : Int) == (u : Int)) = false) := by
                  by_cases e : a = k
                  · refine .inr ⟨by simp [e], ?_⟩
                    have h2 : ¬ ((b : Int) = (u : Int)) := fun e' => by have := Hu.out; rw [e] at hub; omega
                    simpa using h2
                  · refine .inl ?_
                    have h2 : ¬ ((a : Int) = (k : Int)) := fun e' => e (by omega)
                    simpa using h2
                clear hab hc hsl hub
                rcases hne with hq | ⟨hq, hq2⟩
                · go_wp2
                  go_quiet (fail)
                  obtain ⟨W5, hW5⟩ : ∃ x, x = wr.drewN nq := ⟨_, rfl⟩
                  have B5 : Bel wr W5 := by rw [hW5]; exact bl_drewN (bl_refl _) _
                  rw [← hW5]
                  clear hW5
                  replace h0 := keep B5 h0
                  replace yb := keep B5 yb
                  replace xg := keep B5 xg
                  replace xgf := (B5.2 _).trans xgf
                  have hR5 := hide (hRd.out.bel B5)
                  have hf5 := hide (hfd.out.trans (Fr.of_bel B5))
                  have hst := hide (hR5.out.put (o := a) (by omega) (.bool true))
                  have hsf := hide (hf5.out.set (g := g) (.inl (by simp)) a (.bool true))
                  clear B5 h1 z0 z1 hRd hfd hOnr
                  cases c with
                  | true =>
                    go_wp2
                    go_roundg (hl - (j + 1))
                    case measure => omega
                    case rel => exact ⟨j + 1, D.set a true, by go_num, by omega, Nat.le_refl _, (by show (D.set a true).length = _; rw [List.length_set]; exact HD.out), hUs.out.yes Hab.out Hc.out, (by have := hst.out; rw [lRow_set] at this; exact this), hsf.out⟩
                  | false =>
                    go_wp2
                    go_roundg (hl - (j + 1))
                    case measure => omega
                    case rel => exact ⟨j + 1, D, by go_num, by omega, Nat.le_refl _, HD, hUs.out.no (by rw [Hc.out]; simp), hR5.out, hf5.out⟩
                · go_wp2
                  go_quiet (fail)
                  obtain ⟨W5, hW5⟩ : ∃ x, x = wr.drewN nq := ⟨_, rfl⟩
                  have B5 : Bel wr W5 := by rw [hW5]; exact bl_drewN (bl_refl _) _
                  rw [← hW5]
                  clear hW5
                  replace h0 := keep B5 h0
                  replace yb := keep B5 yb
                  replace xg := keep B5 xg
                  replace xgf := (B5.2 _).trans xgf
                  have hR5 := hide (hRd.out.bel B5)
                  have hf5 := hide (hfd.out.trans (Fr.of_bel B5))
                  have hst := hide (hR5.out.put (o := a) (by omega) (.bool true))
                  have hsf := hide (hf5.out.set (g := g) (.inl (by simp)) a (.bool true))
                  clear B5 h1 z0 z1 hRd hfd hOnr
                  cases c with
                  | true =>
                    go_wp2
                    go_roundg (hl - (j + 1))
                    case measure => omega
                    case rel => exact ⟨j + 1, D.set a true, by go_num, by omega, Nat.le_refl _, (by show (D.set a true).length = _; rw [List.length_set]; exact HD.out), hUs.out.yes Hab.out Hc.out, (by have := hst.out; rw [lRow_set] at this; exact this), hsf.out⟩
                  | false =>
                    go_wp2
                    go_roundg (hl - (j + 1))
                    case measure => omega
                    case rel => exact ⟨j + 1, D, by go_num, by omega, Nat.le_refl _, HD, hUs.out.no (by rw [Hc.out]; simp), hR5.out, hf5.out⟩
              · have hjz : ¬ (j : Int) < (hl : Int) := by omega
                have hjn : hl = j := by omega
                subst hjn
                have hLv : ∀ t, t < K + 2 → (D[t]? = some true ↔ s.L[t]? = some true) := fun t ht => by
                  have hU := hUs.out
                  rw [← HH.out] at hU
                  exact hU.live hIv.out (by rw [HD.out]; exact ht)
                obtain ⟨hl1, hl2⟩ := hIv.out.least hi200 hk.out
                have hkK : k ≤ K + 1 := by have := HM.out; omega
                have xD : Hid (∀ t, t < k → wr.cell? ⟨g, t, none⟩ = some (.bool true)) := (fun t ht => hRd.out.cell (by rw [lRow_get, (hLv t (by omega)).2 (hl1 t ht)]; rfl) : ∀ t, t < k → wr.cell? ⟨g, t, none⟩ = some (.bool true))
                have xk : wr.cell? ⟨g, k, none⟩ = some (.bool false) := by
                  obtain ⟨d, hd⟩ := get_of_lt (l := D) (i := k) (by rw [HD.out]; omega)
                  have : d = false := by
                    cases d with
                    | false => rfl
                    | true => exact absurd ((hLv k (by omega)).1 hd) hl2
                  subst this
                  exact hRd.out.cell (by rw [lRow_get, hd]; rfl)
                replace q0 := z0
                replace q1 := z1
                clear hLv hl1 hl2 hUs HD hRd hfd z0 z1 hR4 hOn4
                obtain ⟨W5, hW5⟩ : ∃ x, x = wr := ⟨_, rfl⟩
                have hOn5 := hOnr
                rw [← hW5] at hOn5 xD xk q0 q1 ⊢
                clear hW5 hOnr
                have hkz2 : (k : Int) < ((K + 2 : Nat) : Int) := by omega
                have hkz3 : (k : Int) < (K : Int) + 2 := by omega
                have ewk : IntKind.wrap .i64 (k : Int) = (k : Int) := by rw [IntKind.wrap_i64]; omega
                go_wp2
                go_loopg [19] k (fun kx s19 wr => ∃ t : Nat, s19 = .int .i64 (t : Int) ∧ t ≤ k ∧ k - t ≤ kx ∧ wr = W5)
                case atStart => exact ⟨0, rfl, Nat.zero_le _, Nat.le_refl _, rfl⟩
                case round =>
                  obtain ⟨t, rfl, ht, htx, hwr⟩ := hrel
                  rw [hwr]
                  clear hwr
                  by_cases htk : t < k
                  · have xt := xD.out t htk
                    have htz : (t : Int) < ((K + 2 : Nat) : Int) := by omega
                    have htz2 : (t : Int) < (K : Int) + 2 := by omega
                    have ewt : IntKind.wrap .i64 ((t : Int) + 1) = (t : Int) + 1 := by rw [IntKind.wrap_i64]; omega
                    go_wp2
                    go_roundg (k - (t + 1))
                    case measure => omega
                    case rel => exact ⟨t + 1, by go_num, by omega, Nat.le_refl _, rfl⟩
                  · have htk2 : k = t := by omega
                    subst htk2
                    have hRo : ∀ c t, Ro 2 (W5.alloc (.cells c t)) sh hl ch (hRow H) := fun c t => by have := hOn5.out.rh.bel (st_bel (W := W5) c t); rwa [HH.out] at this
                    have hon : ∀ c t, Hid (On w (W5.alloc (.cells c t)) m2 (putS s k (.int .i64 (Y i))) sh ch sx cx sb cb H X B) := fun c t => hOn5.out.bel (st_bel c t)
                    have e1 : hl + 1 ≤ maxLen := by unfold maxLen; omega
                    have e2 : (hl + 1) * 8 ≤ 140737488355328 := by omega
                    have e3 : ∀ v ∈ [Value.int .u32 (k : Int), Value.int .u32 (u : Int)], v.oneCell' = true := hRow_one k u
                    have e4 := mk_rw W5 [.int .u32 (k : Int), .int .u32 (u : Int)] 29
                    obtain ⟨sh6, ch6, w6, hrun, hR6, hf6⟩ := Ro.app (P := Try.prog) 50 50 29 Try.underlying50 info_han rfl (by decide) W5.heap.size 0 1 1 (hRo _ _) rfl e4 e3 (by decide) e1 e2
                    go_upto_region 37 with (first | (at_builtin; refine wpList_run 50 (.tmp 185) (.tmp 187) rfl rfl rfl rfl hrun ?_))
                    have hOn6 := hide ((hon _ _).out.appH (H' := H ++ [(k, u)]) (by rw [List.length_append, HH.out, hRow_app]; exact hR6) hf6)
                    have xa6 := (hOn6.out.low.cell (p := ⟨b0, off + i, none⟩) hbl).trans (hcs i hi1)
                    clear hrun hR6 hf6 hon hRo hOn5 q0 q1
                    have hRo : ∀ c t, Ro 1 (w6.alloc (.cells c t)) sx hl cx (xRow X) := fun c t => by have := hOn6.out.rx.bel (st_bel (W := w6) c t); rwa [hIv.out.lx, HH.out] at this
                    have hon : ∀ c t, Hid (On w (w6.alloc (.cells c t)) m2 (putS s k (.int .i64 (Y i))) sh6 ch6 sx cx sb cb (H ++ [(k, u)]) X B) := fun c t => hOn6.out.bel (st_bel c t)
                    obtain ⟨sx7, cx7, w7, hrun, hR7, hf7⟩ := Ro.app (P := Try.prog) 35 35 3 Try.underlying35 info_I rfl (by decide) w6.heap.size 0 1 1 (hRo _ _) (N := [.int .i64 (Y i)]) rfl (mk_rw w6 [.int .i64 (Y i)] 3) (by intro v hv; simp only [List.mem_cons, List.not_mem_nil, or_false] at hv; subst hv; rfl) (by decide) e1 e2
                    go_upto_region 38 with (first | (at_builtin; refine wpList_run 35 (.tmp 189) (.tmp 194) rfl rfl rfl rfl hrun ?_))
                    have hOn7 := hide ((hon _ _).out.appX (X' := X ++ [Y i]) (by rw [List.length_append, hIv.out.lx, HH.out, xRow_app]; exact hR7) hf7)
                    clear hrun hR7 hf7 hon hRo hOn6 xa6
                    have hRo : ∀ c t, Ro 1 (w7.alloc (.cells c t)) sb hl cb (lRow B) := fun c t => by have := hOn7.out.rb.bel (st_bel (W := w7) c t); rwa [hIv.out.lb, HH.out] at this
                    have hon : ∀ c t, Hid (On w (w7.alloc (.cells c t)) m2 (putS s k (.int .i64 (Y i))) sh6 ch6 sx7 cx7 sb cb (H ++ [(k, u)]) (X ++ [Y i]) B) := fun c t => hOn7.out.bel (st_bel c t)
                    obtain ⟨sb8, cb8, w8, hrun, hR8, hf8⟩ := Ro.app (P := Try.prog) 34 34 4 Try.underlying34 info_bool rfl (by decide) w7.heap.size 0 1 1 (hRo _ _) (N := [.bool true]) rfl (mk_rw w7 [.bool true] 4) (by intro v hv; simp only [List.mem_cons, List.not_mem_nil, or_false] at hv; subst hv; rfl) (by decide) e1 (by omega)
                    go_upto_region 39 with (first | (at_builtin; refine wpList_run 34 (.tmp 196) (.tmp 197) rfl rfl rfl rfl hrun ?_))
                    have hOn8 := hide ((hon _ _).out.appB (B' := B ++ [true]) (by rw [List.length_append, hIv.out.lb, HH.out, lRow_app]; exact hR8) hf8)
                    clear hrun hR8 hf8 hon hRo hOn7
                    have hIv8 := hide (hIv.out.put hi200 hk.out hkm (Y i))
                    rw [Hu.out] at hIv8
                    obtain ⟨H8, hH8⟩ : ∃ x, x = H ++ [(k, u)] := ⟨_, rfl⟩
                    obtain ⟨X8, hX8⟩ : ∃ x, x = X ++ [Y i] := ⟨_, rfl⟩
                    obtain ⟨B8, hB8⟩ : ∃ x, x = B ++ [true] := ⟨_, rfl⟩
                    obtain ⟨S8, hS8⟩ : ∃ x, x = putS s k (.int .i64 (Y i)) := ⟨_, rfl⟩
                    obtain ⟨n8, hn8⟩ : ∃ x, x = hl + 1 := ⟨_, rfl⟩
                    have HH8 : Hid (H8.length = n8) := by show H8.length = n8; rw [hH8, hn8, List.length_append, HH.out]; rfl
                    have HM8 : Hid (S8.most = K + 1) := by rw [hS8]; exact HM
                    rw [← hH8, ← hX8, ← hB8, ← hS8] at hOn8 hIv8
                    have hn8i : n8 ≤ i + 1 := by omega
                    rw [← hn8]
                    clear hH8 hX8 hB8 hS8 hn8 hIv Hu hk hkm hle hum HH HM
                    go_wp2
                    go_loopg [20] n8 (fun kx s20 wr => ∃ j : Nat, s20 = .int .i64 (j : Int) ∧ j ≤ n8 ∧ n8 - j ≤ kx ∧ Hid (On w wr m2 S8 sh6 ch6 sx7 cx7 sb8 cb8 H8 X8 B8))
                    case atStart => exact ⟨0, rfl, Nat.zero_le _, Nat.le_refl _, hOn8.out⟩
                    case round =>
                      clear hOn8
                      obtain ⟨j, rfl, hj, hjx, hOn9⟩ := hrel
                      by_cases hjl : j < n8
                      · have hjz : (j : Int) < (n8 : Int) := by omega
                        have ewj : IntKind.wrap .i64 ((j : Int) + 1) = (j : Int) + 1 := by rw [IntKind.wrap_i64]; omega
                        obtain ⟨gh, hgh, _⟩ := hOn9.out.rh.at (by rw [HH8.out]; omega)
                        obtain ⟨gx, hgx, _⟩ := hOn9.out.rx.at (by rw [hIv8.out.lx, HH8.out]; omega)
                        obtain ⟨gb, hgb, _⟩ := hOn9.out.rb.at (by rw [hIv8.out.lb, HH8.out]; omega)
                        subst hgh hgx hgb
                        obtain ⟨⟨a, b⟩, hab⟩ := get_of_lt (l := H8) (i := j) (by rw [HH8.out]; exact hjl)
                        obtain ⟨x, hx⟩ := get_of_lt (l := X8) (i := j) (by rw [hIv8.out.lx, HH8.out]; exact hjl)
                        obtain ⟨c, hc⟩ := get_of_lt (l := B8) (i := j) (by rw [hIv8.out.lb, HH8.out]; exact hjl)
                        obtain ⟨hsl, hub, hnm⟩ := hIv8.out.sl j a b hab
                        have h0 := hOn9.out.rh.cell (hRow_get H8 j a b hab).1
                        have h1 := hOn9.out.rh.cell (hRow_get H8 j a b hab).2
                        have yb := hOn9.out.rb.cell (i := j) (u := .bool c) (by rw [lRow_get, hc]; rfl)
                        have yx := hOn9.out.rx.cell (i := j) (u := .int .i64 x) (by rw [xRow_get, hx]; rfl)
                        have hau : a < 4294967296 := by have := hIv8.out.ok.um; have := hIv8.out.ok.m2; omega
                        have hbu : b < 4294967296 := by
                          rcases get_of_lt hsl with ⟨u', hu'⟩
                          have := hIv8.out.ok.uo u' (List.mem_of_getElem? hu')
                          rw [getD_lt hu'] at hub
                          omega
                        have hth := hide (hIv8.out.th j a b x hab)
                        have Hx := hide hx
                        have Hc := hide hc
                        clear hab hsl hub hx hc
                        cases c with
                        | true =>
                          have hgt := get_dI hOn9.out.st hIv8.out.ok HP2.out (a := a) (b := b) rfl rfl hau hbu (hnm.1 Hc.out) (hth.out Hc.out Hx.out)
                          clear hnm hth
                          go_wp2_with (first | (go_at_call 22; (with_reducible refine hgt.mono ?_); rintro e w10 ⟨rfl, hb10⟩; replace yb := keep hb10 yb; replace yx := keep hb10 yx))
                          go_roundg (n8 - (j + 1))
                          case measure => omega
                          case rel => exact ⟨j + 1, by go_num, by omega, Nat.le_refl _, hOn9.out.bel hb10⟩
                        | false =>
                          have hgt := get_nI hOn9.out.st hIv8.out.ok HP2.out (a := a) (b := b) rfl rfl hau hbu (fun hn => by have := hnm.2 hn; rw [Hc.out] at this; cases this)
                          clear hnm hth
                          go_wp2_with (first | (go_at_call 22; (with_reducible refine hgt.mono ?_); rintro e w10 ⟨rfl, hb10⟩; replace yb := keep hb10 yb; replace yx := keep hb10 yx))
                          go_roundg (n8 - (j + 1))
                          case measure => omega
                          case rel => exact ⟨j + 1, by go_num, by omega, Nat.le_refl _, hOn9.out.bel hb10⟩
                      · have hjz : ¬ (j : Int) < (n8 : Int) := by omega
                        go_wp2
                        go_roundg (200 - (i + 1))
                        case measure => omega
                        case rel => exact ⟨i + 1, n8, m2, S8, sh6, ch6, sx7, cx7, sb8, cb8, H8, X8, B8, rfl, rfl, rfl, by go_num, by omega, by omega, Nat.le_refl _, hn8i, HH8, HP2, HM8, hOn9, hIv8⟩
        · replace hkm : k = s.most := by omega
          as_aux_lemma =>
            have hput := put_nI hOn.out.st hIv.out.ok (Y i) HP.out hk.out hkm
            have Hkm := hide hkm
            clear hkm
            go_upto_region 20 with (first | (go_at_call 9; (with_reducible refine hput.mono ?_); rintro e w2 ⟨rfl, m2, HP2, hS2, hf2⟩))
            have b3 := st_bel (W := w2) #[.int .u32 0, .int .u32 0] 29
            have q0 : (w2.alloc (.cells #[.int .u32 0, .int .u32 0] 29)).cell? ⟨w2.heap.size, 0, none⟩ = some (.int .u32 0) := by rw [World.cell?_alloc_new]; rfl
            have q1 : (w2.alloc (.cells #[.int .u32 0, .int .u32 0] 29)).cell? ⟨w2.heap.size, 1, none⟩ = some (.int .u32 0) := by rw [World.cell?_alloc_new]; rfl
            have hOn3 := hide ((hOn.out.sto hS2 hf2).bel b3)
            replace HP2 := hide HP2
            clear hput hS2 hf2 hOn
            obtain ⟨q, hq⟩ : ∃ q, q = w2.heap.size := ⟨_, rfl⟩
            obtain ⟨W3, hW3⟩ : ∃ x, x = w2.alloc (.cells #[.int .u32 0, .int .u32 0] 29) := ⟨_, rfl⟩
            rw [← hq, ← hW3] at q0 q1
            rw [← hW3] at hOn3
            rw [← hq, ← hW3]
            clear hq hW3 b3
            have hmk : ∀ W, (Instr.makeSlice 34 (.int .i64 ((K : Int) + 2)) (.int .i64 ((K : Int) + 2))).run Try.prog W = .ok (.slice (some ⟨W.heap.size, 0, none⟩) (K + 2) (K + 2)) (W.alloc (.cells (Array.replicate (K + 2) (.bool false)) 4)) := fun W => by
              have := make_bool (K + 2) (by omega) W
              rwa [show ((K + 2 : Nat) : Int) = (K : Int) + 2 by omega] at this
            have ewK2 : IntKind.wrap .i64 ((K : Int) + 2) = (K : Int) + 2 := by rw [IntKind.wrap_i64]; omega
            have b4 := st_bel (W := W3) (Array.replicate (K + 2) (.bool false)) 4
            have hR4 : Hid (Ro 1 (W3.alloc (.cells (Array.replicate (K + 2) (.bool false)) 4)) (some ⟨W3.heap.size, 0, none⟩) (K + 2) (K + 2) (lRow (List.replicate (K + 2) false))) := by
              have h := Ro.new1 (W := W3) (List.replicate (K + 2) (.bool false)) 4 (by simp; unfold maxLen; omega)
              simp only [List.length_replicate, List.toArray_replicate] at h
              rw [show lRow (List.replicate (K + 2) false) = List.replicate (K + 2) (.bool false) by simp [lRow]]
              exact h
            have hgq : q ≠ W3.heap.size := fun e => by have := World.block_lt_of_cell? _ _ q0; simp only at this; omega
            have hg0 : w.heap.size ≤ W3.heap.size := hOn3.out.fr.size
            have hgd : ∀ k, k ∈ [W3.heap.size] → k ∉ m2.F ∧ k ∉ ob sh ∧ k ∉ ob sx ∧ k ∉ ob sb := fun k hk => by
              simp only [List.mem_cons, List.not_mem_nil, or_false] at hk
              subst hk
              exact ⟨fun e => Nat.lt_irrefl _ (hOn3.out.st.sz _ e), fun e => Nat.lt_irrefl _ (hOn3.out.rh.lt _ e), fun e => Nat.lt_irrefl _ (hOn3.out.rx.lt _ e), fun e => Nat.lt_irrefl _ (hOn3.out.rb.lt _ e)⟩
            have hgw : ∀ k, k ∈ [W3.heap.size] → w.heap.size ≤ k := fun k hk => by
              simp only [List.mem_cons, List.not_mem_nil, or_false] at hk
              subst hk
              exact hg0
            have hOn4 := hide (hOn3.out.bel b4)
            replace q0 := keep b4 q0
            replace q1 := keep b4 q1
            clear hOn3
            go_upto_region 21 with (first | (go_at_call 21; (with_reducible refine (hup50 _).mono ?_); rintro e w1b ⟨rfl, hw1b⟩; rw [hw1b]; clear hw1b))
            obtain ⟨g, hg⟩ : ∃ g, g = W3.heap.size := ⟨_, rfl⟩
            obtain ⟨W4, hW4⟩ : ∃ x, x = W3.alloc (.cells (Array.replicate (K + 2) (.bool false)) 4) := ⟨_, rfl⟩
            rw [← hg, ← hW4] at hR4
            rw [← hW4] at hOn4 q0 q1
            rw [← hg] at hgq hg0 hgd hgw
            rw [← hg, ← hW4]
            replace hgd := hide hgd
            replace hgw := hide hgw
            replace hgq := hide hgq
            clear hg hW4 b4 hmk
            go_wp2
            go_loopg [18] hl (fun kx s18 wr => ∃ (j : Nat) (D : List Bool), s18 = .int .i64 (j : Int) ∧ j ≤ hl ∧ hl - j ≤ kx ∧ Hid (D.length = K + 2) ∧ Hid (UsedTo H B j D) ∧ Hid (Ro 1 wr (some ⟨g, 0, none⟩) (K + 2) (K + 2) (lRow D)) ∧ Hid (Fr [g] [g] W4 wr))
            case atStart => exact ⟨0, _, rfl, Nat.zero_le _, Nat.le_refl _, (show _ = _ by simp), used_nil H B (K + 2), hR4.out, Fr.refl _ _⟩
            case round =>
              obtain ⟨j, D, rfl, hj, hjx, HD, hUs, hRd, hfd⟩ := hrel
              have hOnr := hide (hOn4.out.fr' hfd.out hgd.out hgw.out)
              have z0 := hfd.out.cell (fun e => hgq.out (by simpa using e)) q0
              have z1 := hfd.out.cell (fun e => hgq.out (by simpa using e)) q1
              by_cases hjl : j < hl
              · have hjz : (j : Int) < (hl : Int) := by omega
                have ewj : IntKind.wrap .i64 ((j : Int) + 1) = (j : Int) + 1 := by rw [IntKind.wrap_i64]; omega
                obtain ⟨gh, hgh, _⟩ := hOnr.out.rh.at (by rw [HH.out]; omega)
                obtain ⟨gb, hgb, _⟩ := hOnr.out.rb.at (by rw [hIv.out.lb, HH.out]; omega)
                subst hgh hgb
                obtain ⟨⟨a, b⟩, hab⟩ := get_of_lt (l := H) (i := j) (by rw [HH.out]; exact hjl)
                obtain ⟨c, hc⟩ := get_of_lt (l := B) (i := j) (by rw [hIv.out.lb, HH.out]; exact hjl)
                obtain ⟨hsl, hub, _⟩ := hIv.out.sl j a b hab
                have h0 := hOnr.out.rh.cell (hRow_get H j a b hab).1
                have h1 := hOnr.out.rh.cell (hRow_get H j a b hab).2
                have yb := hOnr.out.rb.cell (i := j) (u := .bool c) (by rw [lRow_get, hc]; rfl)
                have haK : a < K + 2 := by have := hIv.out.ok.um; have := HM.out; omega
                have haz : (a : Int) < (K : Int) + 2 := by omega
                have haz2 : (a : Int) < ((K + 2 : Nat) : Int) := by omega
                have ewa : IntKind.wrap .i64 (a : Int) = (a : Int) := by rw [IntKind.wrap_i64]; omega
                have Hab := hide hab
                have Hc := hide hc
                have xg := own_at hRd.out.own (o := a) (by omega)
                obtain ⟨⟨ug, xg⟩, xgf⟩ := xg
                have hst := hide (hRd.out.put (o := a) (by omega) (.bool true))
                have hsf := hide (hfd.out.set (g := g) (.inl (by simp)) a (.bool true))
                have hne : ((a : Int) == 0) = false ∨ (((a : Int) == 0) = true ∧ (((b : Int) == 0) = false ∨ ((b : Int) == 0) = true)) := by
                  cases ((a : Int) == 0) <;> cases ((b : Int) == 0) <;> simp
                clear hab hc hsl hub
                rcases hne with hq | ⟨hq, hq2 | hq2⟩
                · go_wp2
                  go_quiet (fail)
                  obtain ⟨W5, hW5⟩ : ∃ x, x = wr.drewN nq := ⟨_, rfl⟩
                  have B5 : Bel wr W5 := by rw [hW5]; exact bl_drewN (bl_refl _) _
                  rw [← hW5]
                  clear hW5
                  replace h0 := keep B5 h0
                  replace yb := keep B5 yb
                  replace xg := keep B5 xg
                  replace xgf := (B5.2 _).trans xgf
                  have hR5 := hide (hRd.out.bel B5)
                  have hf5 := hide (hfd.out.trans (Fr.of_bel B5))
                  have hst := hide (hR5.out.put (o := a) (by omega) (.bool true))
                  have hsf := hide (hf5.out.set (g := g) (.inl (by simp)) a (.bool true))
                  clear B5 h1 z0 z1 hRd hfd hOnr
                  cases c with
                  | true =>
                    go_wp2
                    go_roundg (hl - (j + 1))
                    case measure => omega
                    case rel => exact ⟨j + 1, D.set a true, by go_num, by omega, Nat.le_refl _, (by show (D.set a true).length = _; rw [List.length_set]; exact HD.out), hUs.out.yes Hab.out Hc.out, (by have := hst.out; rw [lRow_set] at this; exact this), hsf.out⟩
                  | false =>
                    go_wp2
                    go_roundg (hl - (j + 1))
                    case measure => omega
                    case rel => exact ⟨j + 1, D, by go_num, by omega, Nat.le_refl _, HD, hUs.out.no (by rw [Hc.out]; simp), hR5.out, hf5.out⟩
                · go_wp2
                  go_quiet (fail)
                  obtain ⟨W5, hW5⟩ : ∃ x, x = wr.drewN nq := ⟨_, rfl⟩
                  have B5 : Bel wr W5 := by rw [hW5]; exact bl_drewN (bl_refl _) _
                  rw [← hW5]
                  clear hW5
                  replace h0 := keep B5 h0
                  replace yb := keep B5 yb
                  replace xg := keep B5 xg
                  replace xgf := (B5.2 _).trans xgf
                  have hR5 := hide (hRd.out.bel B5)
                  have hf5 := hide (hfd.out.trans (Fr.of_bel B5))
                  have hst := hide (hR5.out.put (o := a) (by omega) (.bool true))
                  have hsf := hide (hf5.out.set (g := g) (.inl (by simp)) a (.bool true))
                  clear B5 h1 z0 z1 hRd hfd hOnr
                  cases c with
                  | true =>
                    go_wp2
                    go_roundg (hl - (j + 1))
                    case measure => omega
                    case rel => exact ⟨j + 1, D.set a true, by go_num, by omega, Nat.le_refl _, (by show (D.set a true).length = _; rw [List.length_set]; exact HD.out), hUs.out.yes Hab.out Hc.out, (by have := hst.out; rw [lRow_set] at this; exact this), hsf.out⟩
                  | false =>
                    go_wp2
                    go_roundg (hl - (j + 1))
                    case measure => omega
                    case rel => exact ⟨j + 1, D, by go_num, by omega, Nat.le_refl _, HD, hUs.out.no (by rw [Hc.out]; simp), hR5.out, hf5.out⟩
                · go_wp2
                  go_quiet (fail)
                  obtain ⟨W5, hW5⟩ : ∃ x, x = wr.drewN nq := ⟨_, rfl⟩
                  have B5 : Bel wr W5 := by rw [hW5]; exact bl_drewN (bl_refl _) _
                  rw [← hW5]
                  clear hW5
                  replace h0 := keep B5 h0
                  replace yb := keep B5 yb
                  replace xg := keep B5 xg
                  replace xgf := (B5.2 _).trans xgf
                  have hR5 := hide (hRd.out.bel B5)
                  have hf5 := hide (hfd.out.trans (Fr.of_bel B5))
                  have hst := hide (hR5.out.put (o := a) (by omega) (.bool true))
                  have hsf := hide (hf5.out.set (g := g) (.inl (by simp)) a (.bool true))
                  clear B5 h1 z0 z1 hRd hfd hOnr
                  cases c with
                  | true =>
                    go_wp2
                    go_roundg (hl - (j + 1))
                    case measure => omega
                    case rel => exact ⟨j + 1, D.set a true, by go_num, by omega, Nat.le_refl _, (by show (D.set a true).length = _; rw [List.length_set]; exact HD.out), hUs.out.yes Hab.out Hc.out, (by have := hst.out; rw [lRow_set] at this; exact this), hsf.out⟩
                  | false =>
                    go_wp2
                    go_roundg (hl - (j + 1))
                    case measure => omega
                    case rel => exact ⟨j + 1, D, by go_num, by omega, Nat.le_refl _, HD, hUs.out.no (by rw [Hc.out]; simp), hR5.out, hf5.out⟩
              · have hjz : ¬ (j : Int) < (hl : Int) := by omega
                have hjn : hl = j := by omega
                subst hjn
                have hLv : ∀ t, t < K + 2 → (D[t]? = some true ↔ s.L[t]? = some true) := fun t ht => by
                  have hU := hUs.out
                  rw [← HH.out] at hU
                  exact hU.live hIv.out (by rw [HD.out]; exact ht)
                obtain ⟨hl1, hl2⟩ := hIv.out.least hi200 hk.out
                have hkK : k ≤ K + 1 := by have := HM.out; omega
                have xD : Hid (∀ t, t < k → wr.cell? ⟨g, t, none⟩ = some (.bool true)) := (fun t ht => hRd.out.cell (by rw [lRow_get, (hLv t (by omega)).2 (hl1 t ht)]; rfl) : ∀ t, t < k → wr.cell? ⟨g, t, none⟩ = some (.bool true))
                have xk : wr.cell? ⟨g, k, none⟩ = some (.bool false) := by
                  obtain ⟨d, hd⟩ := get_of_lt (l := D) (i := k) (by rw [HD.out]; omega)
                  have : d = false := by
                    cases d with
                    | false => rfl
                    | true => exact absurd ((hLv k (by omega)).1 hd) hl2
                  subst this
                  exact hRd.out.cell (by rw [lRow_get, hd]; rfl)
                replace q0 := z0
                replace q1 := z1
                clear hLv hl1 hl2 hUs HD hRd hfd z0 z1 hR4 hOn4
                obtain ⟨W5, hW5⟩ : ∃ x, x = wr := ⟨_, rfl⟩
                have hOn5 := hOnr
                rw [← hW5] at hOn5 xD xk q0 q1 ⊢
                clear hW5 hOnr
                have hkz2 : (k : Int) < ((K + 2 : Nat) : Int) := by omega
                have hkz3 : (k : Int) < (K : Int) + 2 := by omega
                have ewk : IntKind.wrap .i64 (k : Int) = (k : Int) := by rw [IntKind.wrap_i64]; omega
                go_wp2
                go_loopg [19] k (fun kx s19 wr => ∃ t : Nat, s19 = .int .i64 (t : Int) ∧ t ≤ k ∧ k - t ≤ kx ∧ wr = W5)
                case atStart => exact ⟨0, rfl, Nat.zero_le _, Nat.le_refl _, rfl⟩
                case round =>
                  obtain ⟨t, rfl, ht, htx, hwr⟩ := hrel
                  rw [hwr]
                  clear hwr
                  by_cases htk : t < k
                  · have xt := xD.out t htk
                    have htz : (t : Int) < ((K + 2 : Nat) : Int) := by omega
                    have htz2 : (t : Int) < (K : Int) + 2 := by omega
                    have ewt : IntKind.wrap .i64 ((t : Int) + 1) = (t : Int) + 1 := by rw [IntKind.wrap_i64]; omega
                    go_wp2
                    go_roundg (k - (t + 1))
                    case measure => omega
                    case rel => exact ⟨t + 1, by go_num, by omega, Nat.le_refl _, rfl⟩
                  · have htk2 : k = t := by omega
                    subst htk2
                    have hkK2 : ¬ ((k : Int) ≤ (K : Int)) := by have := Hkm.out; have := HM.out; omega
                    go_wp2_with (first | (go_at_call 21; (with_reducible refine (hup50 _).mono ?_); rintro e w1b ⟨rfl, hw1b⟩; rw [hw1b]; clear hw1b))
                    go_roundg (200 - (i + 1))
                    case measure => omega
                    case rel => exact ⟨i + 1, hl, m2, { s with nx := k }, sh, ch, sx, cx, sb, cb, H, X, B, rfl, rfl, rfl, by go_num, by omega, by omega, Nat.le_refl _, by omega, HH, HP2, HM, hOn5, (hIv.out.nx hk.out).more (by omega)⟩
    · rcases (show ¬ i < n ∨ (i < n ∧ ¬ i < 200) by omega) with hx1 | ⟨hx1, hx2⟩
      · have hz1 : ¬ (i : Int) < (n : Int) := by omega
        as_aux_lemma =>
          have hct := hIv.out.ct
          obtain ⟨W, hW⟩ : ∃ x, x = wr := ⟨_, rfl⟩
          rw [← hW] at hOn ⊢
          clear hW
          go_wp2
          go_loopg [23, 24] hl (fun kx s23 s24 wr => ∃ j c : Nat, s24 = .int .i64 (j : Int) ∧ s23 = .int .i64 (c : Int) ∧ j ≤ hl ∧ hl - j ≤ kx ∧ c ≤ j ∧ Hid (c = (B.take j).count true) ∧ wr = W)
          case atStart => exact ⟨0, 0, rfl, rfl, Nat.zero_le _, Nat.le_refl _, Nat.le_refl _, rfl, rfl⟩
          case round =>
            obtain ⟨j, c, rfl, rfl, hj, hjx, hcj, Hcc, hwr⟩ := hrel
            rw [hwr]
            clear hwr
            by_cases hjl : j < hl
            · have hjz : (j : Int) < (hl : Int) := by omega
              have ewj : IntKind.wrap .i64 ((j : Int) + 1) = (j : Int) + 1 := by rw [IntKind.wrap_i64]; omega
              have ewc : IntKind.wrap .i64 ((c : Int) + 1) = (c : Int) + 1 := by rw [IntKind.wrap_i64]; omega
              obtain ⟨gb, hgb, _⟩ := hOn.out.rb.at (by rw [hIv.out.lb, HH.out]; omega)
              subst hgb
              obtain ⟨d, hd⟩ := get_of_lt (l := B) (i := j) (by rw [hIv.out.lb, HH.out]; exact hjl)
              have yb := hOn.out.rb.cell (i := j) (u := .bool d) (by rw [lRow_get, hd]; rfl)
              have Hd := hide hd
              clear hd
              cases d with
              | true =>
                go_wp2
                go_roundg (hl - (j + 1))
                case measure => omega
                case rel => exact ⟨j + 1, c + 1, by go_num, by go_num, by omega, Nat.le_refl _, by omega, (by show c + 1 = _; rw [count_take Hd.out, ← Hcc.out]; rfl), rfl⟩
              | false =>
                go_wp2
                go_roundg (hl - (j + 1))
                case measure => omega
                case rel => exact ⟨j + 1, c, by go_num, rfl, by omega, Nat.le_refl _, by omega, (by show c = _; rw [count_take Hd.out, ← Hcc.out]; rfl), rfl⟩
            · have hjz : ¬ (j : Int) < (hl : Int) := by omega
              have hle := len_dI hOn.out.st HP.out (x := (c : Int)) (by
                have h1 := Hcc.out
                rw [List.take_of_length_le (by rw [hIv.out.lb, HH.out]; omega)] at h1
                omega)
              clear hct
              go_wp2_with (first | (go_at_call 13; (with_reducible refine hle.mono ?_); rintro e w9 ⟨rfl, hw9⟩; rw [hw9]; clear hw9))
              go_ret
              exact ⟨by first | rfl | simp, hOn.out.low⟩
      · have hz1 : (i : Int) < (n : Int) := by omega
        have hz2 : ¬ (i : Int) < 200 := by omega
        as_aux_lemma =>
          have hct := hIv.out.ct
          obtain ⟨W, hW⟩ : ∃ x, x = wr := ⟨_, rfl⟩
          rw [← hW] at hOn ⊢
          clear hW
          go_wp2
          go_loopg [23, 24] hl (fun kx s23 s24 wr => ∃ j c : Nat, s24 = .int .i64 (j : Int) ∧ s23 = .int .i64 (c : Int) ∧ j ≤ hl ∧ hl - j ≤ kx ∧ c ≤ j ∧ Hid (c = (B.take j).count true) ∧ wr = W)
          case atStart => exact ⟨0, 0, rfl, rfl, Nat.zero_le _, Nat.le_refl _, Nat.le_refl _, rfl, rfl⟩
          case round =>
            obtain ⟨j, c, rfl, rfl, hj, hjx, hcj, Hcc, hwr⟩ := hrel
            rw [hwr]
            clear hwr
            by_cases hjl : j < hl
            · have hjz : (j : Int) < (hl : Int) := by omega
              have ewj : IntKind.wrap .i64 ((j : Int) + 1) = (j : Int) + 1 := by rw [IntKind.wrap_i64]; omega
              have ewc : IntKind.wrap .i64 ((c : Int) + 1) = (c : Int) + 1 := by rw [IntKind.wrap_i64]; omega
              obtain ⟨gb, hgb, _⟩ := hOn.out.rb.at (by rw [hIv.out.lb, HH.out]; omega)
              subst hgb
              obtain ⟨d, hd⟩ := get_of_lt (l := B) (i := j) (by rw [hIv.out.lb, HH.out]; exact hjl)
              have yb := hOn.out.rb.cell (i := j) (u := .bool d) (by rw [lRow_get, hd]; rfl)
              have Hd := hide hd
              clear hd
              cases d with
              | true =>
                go_wp2
                go_roundg (hl - (j + 1))
                case measure => omega
                case rel => exact ⟨j + 1, c + 1, by go_num, by go_num, by omega, Nat.le_refl _, by omega, (by show c + 1 = _; rw [count_take Hd.out, ← Hcc.out]; rfl), rfl⟩
              | false =>
                go_wp2
                go_roundg (hl - (j + 1))
                case measure => omega
                case rel => exact ⟨j + 1, c, by go_num, rfl, by omega, Nat.le_refl _, by omega, (by show c = _; rw [count_take Hd.out, ← Hcc.out]; rfl), rfl⟩
            · have hjz : ¬ (j : Int) < (hl : Int) := by omega
              have hle := len_dI hOn.out.st HP.out (x := (c : Int)) (by
                have h1 := Hcc.out
                rw [List.take_of_length_le (by rw [hIv.out.lb, HH.out]; omega)] at h1
                omega)
              clear hct
              go_wp2_with (first | (go_at_call 13; (with_reducible refine hle.mono ?_); rintro e w9 ⟨rfl, hw9⟩; rw [hw9]; clear hw9))
              go_ret
              exact ⟨by first | rfl | simp, hOn.out.low⟩

end Go.Proofs.Ytdindpacppnhcaa
