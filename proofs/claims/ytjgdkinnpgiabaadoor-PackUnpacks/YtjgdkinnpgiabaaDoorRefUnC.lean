/- The contract of the reference's Unpack (by mkUnp.py). -/
import Derived.Test.YtjgdkinnpgiabaaDoorRefUnB
import Derived.Test.YtjgdkinnpgiabaaDoorPartL
import Derived.Test.YtjgdkinnpgiabaaDoorPkW
import Derived.Test.YtjgdkinnpgiabaaDoorRefPkA
import Derived.Test.YtjgdkinnpgiabaaDoorRefGdP
import Derived.Test.YtjgdkinnpgiabaaDoorBigSb
import Derived.Test.YtjgdkinnpgiabaaDoorBigH
namespace Go.Proofs.YtjgdkinnpgiabaaDoor
open Go.RowKit
set_option linter.unusedVariables false
set_option linter.unusedSimpArgs false
set_option maxHeartbeats 2000000

set_option maxRecDepth 100000 in
theorem refUnpack_main (v : Value) (b : List Int) (w : World) (hv : Byts w v b) (hb : byB b) (hl : b.length = 15) (hs : chN b 14 = nth b 14) (at' : Addr) (ct : Nat) (hT : TabS w 0 at' ct wid8 8) :
    Calls Tryd.prog 16 #[v] w (UnP w b) := by
  obtain ⟨ad, c, rfl, hc, hcell⟩ := hv
  obtain ⟨a, rfl, hce⟩ := hcell (by omega)
  have hz := zero_arr zPkt
  have BV := hide (fun wr (g : w.grownBy wr none) => (show Byts wr (.slice (some a) 14 c) (b.take 14) from Byts_take (n := b.length) ⟨some a, c, rfl, hc, fun _ => ⟨a, rfl, fun i hi => grown_keep g (hce i hi)⟩⟩ 14 (by omega)))
  have CK := hide (fun wr (g : w.grownBy wr none) => refCheck_any (.slice (some a) 14 c) (b.take 14) wr (BV.out wr g) (byB_take hb 14) (by simp; omega))
  rw [show (b.take 14).length = 14 by simp; omega, chN_take] at CK
  have c14 := hce 14 (by omega)
  obtain ⟨y1, y2⟩ := hb 14
  rw [hl] at hc ⊢
  have B0 := hide (Blk.new w 28 (zeros 25))
  have ZL := hide (zeros_len 25)
  have G0 := hide (grown_alloc w (.cells (arrI (zeros 25)) 28) none)
  have hxy : (chN b 14 == nth b 14) = true := beq_iff_eq.2 hs
  have SB := hide (fun bz wr (g : w.grownBy wr none) (hz : Struct wr bz) => setBytes_any bz (.slice (some a) 14 c) (b.take 14) wr hz (BV.out wr g) (byB_take hb 14) (by simp; omega))
  rw [xB_take] at SB
  obtain ⟨X0, X1⟩ := xB_bd b hb 14
  rw [show (256 : Int) ^ 14 = 5192296858534827628530496329220096 by decide] at X1
  have NU := hide (fun wr (g : w.grownBy wr none) => refNumbers_any (zeros 25) (zeros_len 25) at' ct wr (TabS_keep hT g))
  have h14 : (14 : Int) ≤ (c : Int) := by omega
  have GP := hide (fun l hl h64 wr (g : w.grownBy wr none) => refGood_any l hl h64 at' ct wr (TabS_keep hT g))
  have PR := hide (fun l hl h64 wr => refParity_any l hl h64 wr)
  have EF := hide (fun h => unE_form b hl hs h)
  have ER := hide (fun h1 h2 => unE_range b hl hs h1 h2)
  have EP := hide (fun h1 h2 h3 => unE_par b hl hs h1 h2 h3)
  have EK := hide (fun h1 h2 h3 => unE_ok b hl hs h1 h2 h3)
  have EL := hide (show unE b = 0 → unL b = unF (xB b 14) from fun h => if_pos h)
  clear hcell hce BV hT
  generalize hZ : zeros 25 = Z at *
  have HZ := hide hZ
  generalize chN b 14 = x at *
  generalize nth b 14 = y at *
  generalize hX : xB b 14 = X at *
  have HX := hide hX
  clear hZ hX
  go_enter Tryd.func16, Tryd.ntmps16
  go_upto_region 3 with fail
  generalize w.alloc (.cells (arrI Z) 28) = W0 at *
  refine wp_region_held_drew (S := GrownW w) (by kernel_rfl) (gw_trans G0.out (grown_drew (grown_refl _ none))) (fun hHeld => ?_)
  refine wpAnyH_take (i := 0) (v := ?vt0) rfl (by kernel_rfl) (by kernel_rfl) (by kernel_rfl) (fun _ _ _ h => h) (Or.inl ⟨by rfl, ?yt0⟩) hHeld ?rt0
  case yt0 => (intro w' hSw; go_simp; (try with_reducible rfl))
  (try simp only [Act.put, List.setIfInBounds_toArray, List.set_cons_zero, List.set_cons_succ, List.getElem_toArray, List.getElem_cons_zero, List.getElem_cons_succ])
  refine wpAnyH_take (i := 1) (v := .slice (some a) 14 c) rfl (by kernel_rfl) (by kernel_rfl) (by kernel_rfl) (fun _ _ _ h => h) (Or.inl ⟨by rfl, ?yt1⟩) hHeld ?rt1
  case yt1 => (intro w' hSw; have h14 : (14 : Int) ≤ (c : Int) := (by omega); go_simp; (try (first | done | (rw [if_pos h14]) | rfl)))
  (try simp only [Act.put, List.setIfInBounds_toArray, List.set_cons_zero, List.set_cons_succ, List.getElem_toArray, List.getElem_cons_zero, List.getElem_cons_succ])
  refine wpAnyH_take (i := 3) (v := ?vt3) rfl (by kernel_rfl) (by kernel_rfl) (by kernel_rfl) (fun _ _ _ h => h) (Or.inl ⟨by rfl, ?yt3⟩) hHeld ?rt3
  case yt3 => (intro w' hSw; go_simp; (try with_reducible rfl))
  (try simp only [Act.put, List.setIfInBounds_toArray, List.set_cons_zero, List.set_cons_succ, List.getElem_toArray, List.getElem_cons_zero, List.getElem_cons_succ])
  refine wpAnyH_take (i := 4) (v := ?vt4) rfl (by kernel_rfl) (by kernel_rfl) (by kernel_rfl) (fun _ _ _ h => h) (Or.inl ⟨by rfl, ?yt4⟩) hHeld ?rt4
  case yt4 => (intro w' hSw; go_simp; (try with_reducible rfl))
  (try simp only [Act.put, List.setIfInBounds_toArray, List.set_cons_zero, List.set_cons_succ, List.getElem_toArray, List.getElem_cons_zero, List.getElem_cons_succ])
  refine wpAnyH_take (i := 5) (v := .int .u8 y) rfl (by kernel_rfl) (by kernel_rfl) (by kernel_rfl) (fun _ _ _ h => h) (Or.inl ⟨by rfl, ?yt5⟩) hHeld ?rt5
  case yt5 => (intro w' hSw; have cc : w'.cell? { block := a.block, off := a.off + 14 } = some (.int .u8 y) := grown_keep hSw c14; go_simp; (try with_reducible rfl))
  (try simp only [Act.put, List.setIfInBounds_toArray, List.set_cons_zero, List.set_cons_succ, List.getElem_toArray, List.getElem_cons_zero, List.getElem_cons_succ])
  refine wpAnyH_ready (rs := [2]) (by kernel_rfl) (by simp) (AllReadyH.cons rfl (fun K hK => ?_) AllReadyH.nil)
  (try simp only [Act.put, List.setIfInBounds_toArray, List.set_cons_zero, List.set_cons_succ, List.getElem_toArray, List.getElem_cons_zero, List.getElem_cons_succ])
  go_simp
  refine (CK.out _ (gw_trans G0.out (grown_drew (grown_refl _ none)))).mono ?_
  rintro e w1 ⟨rfl, rfl⟩
  go_wp2_with fail
  refine hK.out _ _ hHeld (fun hHeld => ?_)
  clear hK
  (try simp only [Act.put, List.setIfInBounds_toArray, List.set_cons_zero, List.set_cons_succ, List.getElem_toArray, List.getElem_cons_zero, List.getElem_cons_succ])
  refine wpAnyH_take (i := 6) (v := .bool false) rfl (by kernel_rfl) (by kernel_rfl) (by kernel_rfl) (fun _ _ _ h => h) (Or.inl ⟨by rfl, ?yt6⟩) hHeld ?rt6
  case yt6 => (intro w' hSw; go_simp; (first | done | rfl | simp [hxy]))
  (try simp only [Act.put, List.setIfInBounds_toArray, List.set_cons_zero, List.set_cons_succ, List.getElem_toArray, List.getElem_cons_zero, List.getElem_cons_succ])
  refine wpAnyH_done (by kernel_rfl) ?_ _
  have B1 := hide (B0.out.keep (grown_drew (grown_refl W0 none)))
  have G1 := hide (grown_none G0.out (grown_drew (grown_refl W0 none)))
  clear B0 G0 CK
  generalize W0.drew = W1 at *
  go_upto_region 5 with fail
  have ZS := hide (struct_new W1)
  have GA := hide (grown_none G1.out (grown_alloc W1 int0 none))
  have BA := hide (B1.out.keep (grown_alloc W1 int0 none))
  rw [show int0 = .cells #[.bool false, .slice none 0 0] 61 from rfl] at ZS GA BA
  go_wp2_with fail
  generalize hW2 : W1.alloc (.cells #[.bool false, .slice none 0 0] 61) = W2 at *
  have S0 := hide (show w.heap.size < W1.heap.size from B1.out.lt)
  clear hW2 B1 G1
  generalize W1.heap.size = bx at *
  refine (SB.out bx W2 GA.out ZS.out).mono ?_
  rintro e w3 ⟨rfl, i3, g3⟩
  have I3 := hide i3
  have B3 := hide (BA.out.keepBut g3 (by have := S0.out; omega))
  have G3 := hide (grown_own GA.out g3 (by have := S0.out; omega))
  clear i3 g3 BA GA SB ZS
  go_upto_region 6 with fail
  have C4 := hide (show (w3.alloc (.cells #[.pointer (some ⟨bx, 0, none⟩)] 58)).cell? ⟨w3.heap.size, 0, none⟩ = some (.pointer (some ⟨bx, 0, none⟩)) by rw [cell_of_heap (heap_new w3 _)]; rfl)
  have I4 := hide (IsI_new I3.out (grown_alloc w3 (.cells #[.pointer (some ⟨bx, 0, none⟩)] 58) none))
  have B4 := hide (B3.out.keep (grown_alloc w3 (.cells #[.pointer (some ⟨bx, 0, none⟩)] 58) none))
  have G4 := hide (grown_none G3.out (grown_alloc w3 (.cells #[.pointer (some ⟨bx, 0, none⟩)] 58) none))
  have S4 := hide (show bx < w3.heap.size ∧ (w3.alloc (.cells #[.pointer (some ⟨bx, 0, none⟩)] 58)).heap.size = w3.heap.size + 1 from ⟨IsI_lt I3.out, by simp⟩)
  clear I3 B3 G3
  generalize w3.alloc (.cells #[.pointer (some ⟨bx, 0, none⟩)] 58) = W4 at *
  generalize w3.heap.size = bv at *
  go_wp2_with fail
  refine (NU.out W4 G4.out).mono ?_
  rintro e w5 ⟨v1, v2, v3, rfl, f1, f2, f3, f4⟩
  rw [List.take_of_length_le (show wdI.length ≤ 25 by decide)] at f1
  have o2 := f1.get 1 rfl
  obtain ⟨gw, cw, rfl, hgw, hgl, hcw⟩ := o2.form (by decide)
  rw [show wdI.length = 25 from rfl] at o2 hcw ⊢
  have s4 := S4.out
  have s0 := S0.out
  have OR := hide (show OrdU w bx bv gw w5.heap.size (w5.heap.size + 1) from ⟨s0, s4.1, by omega, hgl, by omega⟩)
  have M0 := hide (show UnM w bx bv gw cw w5.heap.size (w5.heap.size + 1) Z X 112 (.slice none 0 0) [] (w5.alloc (.cells #[.int .i64 112] 3)) from by
    have ga := grown_alloc w5 (.cells #[.int .i64 112] 3) none
    have em : X % 2 ^ 112 = X := Int.emod_eq_of_lt X0 (by rw [show (2 : Int) ^ 112 = 5192296858534827628530496329220096 by decide]; exact X1)
    exact ⟨⟨heap_new w5 _, grown_keep ga (grown_keep f2 C4.out)⟩, by rw [em]; exact IsI_new (IsI_new I4.out f2) ga, (o2.base (by have := G4.out.size; omega)).keep ga, Own_nil _ _, (B4.out.keep f2).keep ga, grown_none (grown_none G4.out f2) ga, by simp⟩)
  clear f1 f2 f3 f4 o2 s4 s0 S0 S4 C4 I4 B4 G4 NU hgw hgl
  have hmf : ∀ (fn : Fn) (first cap : Array Value) (w : World), (Instr.makeFunc fn first cap).run Tryd.prog w = .ok (.func fn first cap) w := fun _ _ _ _ => rfl
  go_wp2_with fail
  generalize w5.alloc (.cells #[.int .i64 112] 3) = W5 at *
  generalize w5.heap.size + 1 = B at *
  generalize w5.heap.size = bl at *
  clear hmf
  go_loopw [10, 42] (fun vl i wr => ∃ m : Nat, i = .int .i64 m ∧ m ≤ 25 ∧ Hid (UnM w bx bv gw cw bl B Z X (112 - sW m) vl (tab m (fI X)) wr)) (fun _ i _ => 25 - (intOf i).toNat)
  case atStart => exact ⟨0, rfl, Nat.zero_le _, M0.out⟩
  case round =>
    obtain ⟨m, rfl, hm, hM⟩ := hrel
    clear M0
    have oo := OR.out
    by_cases hm25 : m < 25
    · have cw' := hM.out.2.2.1.cell rfl m (by show m < 25; omega)
      rw [wdI_at m hm25] at cw'
      obtain ⟨d1, d2⟩ := wdN_le m hm25
      have s1 := sW_le (m + 1) (by omega)
      have s2 : sW (m + 1) = sW m + wdN m := rfl
      have i1 : (m : Int) < 25 := by omega
      have TK := hide (refTake_any (wdN m) (112 - sW m) bl bv bx (X % 2 ^ (112 - sW m)) wr (by omega) (by omega) hM.out.1 hM.out.2.1 (Int.emod_nonneg _ (Int.ne_of_gt (p2_pos _))) (Int.emod_lt_of_pos _ (p2_pos _)) d2 ⟨by have := oo.2.2.2.1; have := oo.2.2.1; have := oo.2.1; omega, by have := oo.2.1; omega, by have := oo.2.2.2.1; have := oo.2.2.1; omega⟩)
      rw [take_val X m hm25] at TK
      have MT := hide (fun wr' h1 h2 t => (show UnM w bx bv gw cw bl B Z X (112 - sW (m + 1)) u10 (tab m (fI X)) wr' from by
        have := hM.out.took OR.out (wdN m) (by omega) wr' h1 h2 t
        rw [show 112 - sW m - wdN m = 112 - sW (m + 1) by omega] at this
        exact this))
      have ES := hide (show tab (m + 1) (fI X) = tab m (fI X) ++ [fI X m] by unfold tab; rw [List.range_succ]; simp)
      have LN := hide (tab_len m (fI X))
      have BS := hide (fI_bd X m hm25)
      clear hM oo s1 s2
      generalize fI X m = z at *
      generalize wdN m = d at *
      go_wp2_with fail
      refine TK.out.mono ?_
      rintro e w6 ⟨rfl, t1, t2, t3⟩
      have M6 := hide (MT.out w6 t1 t2 t3)
      clear TK MT t1 t2 t3 cw'
      have SZ := hide (show B ≤ (w6.alloc (.cells #[.int .i64 z] 3)).heap.size by have := M6.out.2.2.2.2.2.2; simp; omega)
      have M7 := hide (M6.out.grow (grown_alloc w6 (.cells #[.int .i64 z] 3) none))
      clear M6
      go_wp2_with (at_builtin; refine wpList_append_both (by rfl) _ _ rfl B _ (.slice (some ⟨w6.heap.size, 0, none⟩) 1 1) (tab m (fI X)) [z] rfl rfl M7.out.2.2.2.1 (ints_lit w6 z) (.inr ⟨_, _, rfl⟩) (by rw [LN.out]; simp; omega) SZ.out ?_)
      intro v7 w7 h7 g7
      rw [← ES.out] at h7
      have M8 := hide (M7.out.app OR.out g7 h7)
      clear h7 g7 M7 SZ ES LN
      go_wp2_with fail
      go_roundw
      case rel => exact ⟨m + 1, by go_num, by omega, M8.out⟩
      case measure => simp [intOf]; omega
    · obtain rfl : m = 25 := by omega
      rw [show ((25 : Nat) : Int) = 25 from rfl] at *
      rw [sW25] at hM
      have TK := hide (refTake_any 1 6 bl bv bx (X % 2 ^ 6) wr (by omega) (by omega) hM.out.1 hM.out.2.1 (Int.emod_nonneg _ (Int.ne_of_gt (p2_pos _))) (Int.emod_lt_of_pos _ (p2_pos _)) (by omega) ⟨by have := oo.2.2.2.1; have := oo.2.2.1; have := oo.2.1; omega, by have := oo.2.1; omega, by have := oo.2.2.2.1; have := oo.2.2.1; omega⟩)
      rw [show X % 2 ^ 6 / 2 ^ (6 - 1) = pB X by unfold pB; rw [show (2 : Int) ^ 6 = 64 by decide, show (2 : Int) ^ (6 - 1) = 32 by decide]; omega, show ((1 : Nat) : Int) = 1 from rfl] at TK
      have MT := hide (fun wr' h1 h2 t => (show UnM w bx bv gw cw bl B Z X 5 u10 (unF X) wr' from hM.out.took OR.out 1 (by omega) wr' h1 h2 t))
      clear hM oo
      go_wp2_with fail
      refine TK.out.mono ?_
      rintro e w6 ⟨rfl, t1, t2, t3⟩
      have M6 := hide (MT.out w6 t1 t2 t3)
      clear TK MT t1 t2 t3
      have cv := M6.out.1.2
      have SG := hide (sign_any bx (X % 2 ^ 5) w6 M6.out.2.1)
      rw [show (2 : Int) ^ 5 = 32 by decide] at SG
      by_cases h32 : X % 32 = 0
      · rw [if_pos h32] at SG
        obtain ⟨gl, cl, hu10, hgl, hgl2, hcl⟩ := M6.out.2.2.2.1.form (by rw [unF_len]; omega)
        subst hu10
        rw [unF_len] at M6 hcl ⊢
        have cl0 := M6.out.2.2.2.1.cell (unF_len X).symm 0 (by rw [unF_len]; omega)
        have O6 := hide M6.out.2.2.2.1
        have B6 := hide M6.out.2.2.2.2.1
        have G6 := hide M6.out.2.2.2.2.2.1
        have UL := hide (unF_len X)
        clear M6 EF
        have hset := arrI_set Z 0 (nth (unF X) 0)
        have hZne : ¬ arrI Z = #[] := fun e => by
          have := congrArg Array.size e
          simp [arrI] at this
          have h25 := ZL.out
          rw [this] at h25
          simp at h25
        have U64 := hide (show In64 (unF X) from fun i => by
          by_cases hi : i < 25
          · rw [unF_nth X i hi]; have := fI_bd X i hi; omega
          · rw [getD_out _ i (by rw [unF_len]; omega)]; omega)
        generalize hU : unF X = U at *
        have HU := hide hU
        clear hU
        go_wp2_with fail
        refine SG.out.mono ?_
        rintro e w7 ⟨rfl, rfl⟩
        clear SG
        obtain ⟨K0, hK0⟩ : ∃ K0, Z.set 0 (nth U 0) = K0 := ⟨_, rfl⟩
        rw [hK0] at hset
        have HK0 := hide hK0
        have KL := hide (show K0.length = 25 by rw [← hK0, List.length_set]; exact ZL.out)
        clear hK0
        have FB := fresh_arr w7 28 25 K0 KL.out
        rw [HZ.out] at FB
        have F0 := hide FB.1
        have F1 := hide FB.2.1
        have F2 := hide FB.2.2
        clear FB
        go_upto_region 19 with (first | refine wpList_store_arr rfl 28 _ _ rfl _ Z K0 rfl rfl F0.out (by rw [ZL.out, KL.out]) (by rw [ZL.out]; exact size25) ?_)
        (try simp only [Act.put])
        have NN := hide (show UnN w w7.heap.size gl cl B Z U K0 (putArr (w7.alloc (.cells (arrI Z) 28)) w7.heap.size K0) from ⟨F1.out, O6.out.keep F2.out, B6.out.keep F2.out, grown_none G6.out F2.out⟩)
        have hw7 : w.heap.size < w7.heap.size := B6.out.lt
        have PS := hide (show PartU U 1 K0 from by rw [← HK0.out]; exact partU_start U Z ZL.out)
        obtain ⟨L8, L8L, L8N⟩ : ∃ L8 : List Int, Hid (L8.length = 8) ∧ Hid (∀ j, j < 8 → nth L8 j = nth U (1 + j)) := ⟨(U.drop 1).take 8, by show _ = _; simp [UL.out], fun j hj => by simp [nth, List.getD, List.getElem?_take, List.getElem?_drop, hj, Nat.add_comm]⟩
        have PS2 := hide (partU_step PS.out (by omega) L8L.out L8N.out)
        clear F0 F1 F2 O6 B6 G6 PS HK0 hset hZne cl0 cv
        generalize putArr (w7.alloc (.cells (arrI Z) 28)) w7.heap.size K0 = W8 at *
        generalize w7.heap.size = bp at *
        have q1 : (25 : Int) ≤ cl := by omega
        have q2 : ¬ cl = 1 := by omega
        have q3 : (9 : Int) ≤ cl := by omega
        refine wp_region_held_drew (S := GrownW w) (by kernel_rfl) (gw_trans NN.out.2.2.2 (grown_drew (grown_refl _ none))) (fun hHeld => ?_)
        replace NN := hide (NN.out.grow (grown_drew (grown_refl W8 none)))
        generalize W8.drew = wd at *
        refine wpAnyH_take (i := 0) (v := ?va0) rfl (by kernel_rfl) (by kernel_rfl) (by kernel_rfl) (fun _ _ _ h => h) (Or.inl ⟨by rfl, ?ya0⟩) hHeld ?ra0
        case ya0 => (intro w' hSw; go_simp; (try with_reducible rfl))
        (try simp only [Act.put, List.setIfInBounds_toArray, List.set_cons_zero, List.set_cons_succ, List.getElem_toArray, List.getElem_cons_zero, List.getElem_cons_succ])
        refine wpAnyH_take (i := 1) (v := .slice (some ⟨bp, 1, none⟩) 8 8) rfl (by kernel_rfl) (by kernel_rfl) (by kernel_rfl) (fun _ _ _ h => h) (Or.inl ⟨by rfl, ?ya1⟩) hHeld ?ra1
        case ya1 => (intro w' hSw; go_simp; (try with_reducible rfl))
        (try simp only [Act.put, List.setIfInBounds_toArray, List.set_cons_zero, List.set_cons_succ, List.getElem_toArray, List.getElem_cons_zero, List.getElem_cons_succ])
        refine wpAnyH_take (i := 2) (v := ?va2) rfl (by kernel_rfl) (by kernel_rfl) (by kernel_rfl) (fun _ _ _ h => h) (Or.inl ⟨by rfl, ?ya2⟩) hHeld ?ra2
        case ya2 => (intro w' hSw; go_simp; (try with_reducible rfl))
        (try simp only [Act.put, List.setIfInBounds_toArray, List.set_cons_zero, List.set_cons_succ, List.getElem_toArray, List.getElem_cons_zero, List.getElem_cons_succ])
        refine wpAnyH_take (i := 3) (v := .slice (some ⟨gl, 1, none⟩) 8 (cl - 1)) rfl (by kernel_rfl) (by kernel_rfl) (by kernel_rfl) (fun _ _ _ h => h) (Or.inl ⟨by rfl, ?ya3⟩) hHeld ?ra3
        case ya3 => (intro w' hSw; go_simp; (first | done | rfl | skip))
        (try simp only [Act.put, List.setIfInBounds_toArray, List.set_cons_zero, List.set_cons_succ, List.getElem_toArray, List.getElem_cons_zero, List.getElem_cons_succ])
        refine wpAnyH_ready (rs := [4]) (by kernel_rfl) (by simp) (AllReadyH.cons rfl (fun K hK => ?_) AllReadyH.nil)
        (try simp only [Act.put, List.setIfInBounds_toArray, List.set_cons_zero, List.set_cons_succ, List.getElem_toArray, List.getElem_cons_zero, List.getElem_cons_succ])
        refine step_copyI rfl _ _ rfl bp 1 8 8 (cl - 1) 28 K0 L8 ⟨gl, 1, none⟩ NN.out.1 rfl rfl L8L.out (fun j hj => by rw [Addr.add_mid, NN.out.2.1.cell UL.out.symm (1 + j) (by rw [UL.out]; omega), L8N.out j hj]) (by rw [KL.out]; omega) ?_
        intro w9 b9 g9
        replace NN := hide (NN.out.turn g9 b9 (by omega) (by omega))
        refine hK.out _ _ (gw_own hHeld g9 (by omega)) (fun hHeld => ?_)
        clear hK
        (try simp only [Act.put, List.setIfInBounds_toArray, List.set_cons_zero, List.set_cons_succ, List.getElem_toArray, List.getElem_cons_zero, List.getElem_cons_succ])
        refine wpAnyH_done (by kernel_rfl) ?_ _
        clear hHeld L8L L8N
        generalize splI K0 1 L8 = K1 at *
        go_wp2_with fail
        go_loopw [15] (fun i wr => ∃ (k : Nat) (rs : List Int), i = .int .i64 k ∧ k ≤ 2 ∧ Hid (PartU U (9 + 8 * k) rs) ∧ Hid (UnN w bp gl cl B Z U rs wr)) (fun i _ => 2 - (intOf i).toNat)
        case atStart => exact ⟨0, K1, rfl, Nat.zero_le _, PS2.out, NN.out⟩
        case round =>
          obtain ⟨k, rs, rfl, hk, hP, hN⟩ := hrel
          clear PS2 NN
          by_cases hk2 : k < 2
          · have NN := hide hN.out
            have RSL := hide hP.out.1
            obtain ⟨J, hJ⟩ : ∃ J : Nat, 9 + 8 * k = J := ⟨_, rfl⟩
            have J1 : J + 8 ≤ 25 := by omega
            have J2 : (9 : Int) + 8 * (k : Int) = (J : Int) := by omega
            have J3 : (J : Int) ≤ cl := by omega
            have J4 : ¬ cl = J := by omega
            have J5 : (J : Int) ≤ 25 := by omega
            have J6 : J < 25 := by omega
            have i1 : (k : Int) < 2 := by omega
            have J7 : 9 + k * 8 = J := by omega
            have PN := hide (show PartU U (9 + 8 * (k + 1)) (splI rs J [nth U J, nth U (J + 1), nth U (J + 2), nth U (J + 3), nth U (J + 4), nth U (J + 5), nth U (J + 6), nth U (J + 7)]) from by
              have := partU_step (M := [nth U J, nth U (J + 1), nth U (J + 2), nth U (J + 3), nth U (J + 4), nth U (J + 5), nth U (J + 6), nth U (J + 7)]) hP.out (by omega) rfl (fun j hj => by
                rw [hJ]
                match j, hj with
                | 0, _ => rfl
                | 1, _ => rfl
                | 2, _ => rfl
                | 3, _ => rfl
                | 4, _ => rfl
                | 5, _ => rfl
                | 6, _ => rfl
                | 7, _ => rfl)
              rw [hJ] at this
              rw [show 9 + 8 * (k + 1) = J + 8 by omega]
              exact this)
            clear hN hP hJ
            go_upto_region 24 with fail
            refine wp_region_held_drew (S := fun w' => Own B w' (.slice (some ⟨gl, 0, none⟩) 25 cl) U) (by kernel_rfl) (NN.out.2.1.keep (grown_drew (grown_refl _ none))) (fun hHeld => ?_)
            replace NN := hide (NN.out.grow (grown_drew (grown_refl wr none)))
            generalize wr.drew = wd at *
            refine wpAnyH_take (i := 0) (v := ?vb0) rfl (by kernel_rfl) (by kernel_rfl) (by kernel_rfl) (fun _ _ _ h => h) (Or.inl ⟨by rfl, ?yb0⟩) hHeld ?rb0
            case yb0 => (intro w' hSw; go_simp; (try with_reducible rfl))
            (try simp only [Act.put, List.setIfInBounds_toArray, List.set_cons_zero, List.set_cons_succ, List.getElem_toArray, List.getElem_cons_zero, List.getElem_cons_succ])
            refine wpAnyH_take (i := 1) (v := ?vb1) rfl (by kernel_rfl) (by kernel_rfl) (by kernel_rfl) (fun _ _ _ h => h) (Or.inl ⟨by rfl, ?yb1⟩) hHeld ?rb1
            case yb1 => (intro w' hSw; go_simp; (try with_reducible rfl))
            (try simp only [Act.put, List.setIfInBounds_toArray, List.set_cons_zero, List.set_cons_succ, List.getElem_toArray, List.getElem_cons_zero, List.getElem_cons_succ])
            refine wpAnyH_take (i := 2) (v := .pointer (some ⟨gl, J, none⟩)) rfl (by kernel_rfl) (by kernel_rfl) (by kernel_rfl) (fun _ _ _ h => h) (Or.inl ⟨by rfl, ?yb2⟩) hHeld ?rb2
            case yb2 => (intro w' hSw; go_simp; (first | done | rfl | (intro h; exfalso; omega)))
            (try simp only [Act.put, List.setIfInBounds_toArray, List.set_cons_zero, List.set_cons_succ, List.getElem_toArray, List.getElem_cons_zero, List.getElem_cons_succ])
            refine wpAnyH_take (i := 3) (v := .int .i64 (nth U J)) rfl (by kernel_rfl) (by kernel_rfl) (by kernel_rfl) (fun _ _ _ h => h) (Or.inl ⟨by rfl, ?yb3⟩) hHeld ?rb3
            case yb3 => (intro w' hSw; have cc : w'.cell? ⟨gl, J, none⟩ = some (.int .i64 (nth U J)) := hSw.cell UL.out.symm J (by rw [UL.out]; omega); go_simp; (try with_reducible rfl))
            (try simp only [Act.put, List.setIfInBounds_toArray, List.set_cons_zero, List.set_cons_succ, List.getElem_toArray, List.getElem_cons_zero, List.getElem_cons_succ])
            refine wpAnyH_take (i := 4) (v := ?vb4) rfl (by kernel_rfl) (by kernel_rfl) (by kernel_rfl) (fun _ _ _ h => h) (Or.inl ⟨by rfl, ?yb4⟩) hHeld ?rb4
            case yb4 => (intro w' hSw; go_simp; (try with_reducible rfl))
            (try simp only [Act.put, List.setIfInBounds_toArray, List.set_cons_zero, List.set_cons_succ, List.getElem_toArray, List.getElem_cons_zero, List.getElem_cons_succ])
            refine wpAnyH_take (i := 5) (v := .pointer (some ⟨gl, J + 1, none⟩)) rfl (by kernel_rfl) (by kernel_rfl) (by kernel_rfl) (fun _ _ _ h => h) (Or.inl ⟨by rfl, ?yb5⟩) hHeld ?rb5
            case yb5 => (intro w' hSw; go_simp; (first | done | rfl | (intro h; exfalso; omega)))
            (try simp only [Act.put, List.setIfInBounds_toArray, List.set_cons_zero, List.set_cons_succ, List.getElem_toArray, List.getElem_cons_zero, List.getElem_cons_succ])
            refine wpAnyH_take (i := 6) (v := .int .i64 (nth U (J + 1))) rfl (by kernel_rfl) (by kernel_rfl) (by kernel_rfl) (fun _ _ _ h => h) (Or.inl ⟨by rfl, ?yb6⟩) hHeld ?rb6
            case yb6 => (intro w' hSw; have cc : w'.cell? ⟨gl, (J + 1), none⟩ = some (.int .i64 (nth U (J + 1))) := hSw.cell UL.out.symm (J + 1) (by rw [UL.out]; omega); go_simp; (try with_reducible rfl))
            (try simp only [Act.put, List.setIfInBounds_toArray, List.set_cons_zero, List.set_cons_succ, List.getElem_toArray, List.getElem_cons_zero, List.getElem_cons_succ])
            refine wpAnyH_take (i := 7) (v := ?vb7) rfl (by kernel_rfl) (by kernel_rfl) (by kernel_rfl) (fun _ _ _ h => h) (Or.inl ⟨by rfl, ?yb7⟩) hHeld ?rb7
            case yb7 => (intro w' hSw; go_simp; (try with_reducible rfl))
            (try simp only [Act.put, List.setIfInBounds_toArray, List.set_cons_zero, List.set_cons_succ, List.getElem_toArray, List.getElem_cons_zero, List.getElem_cons_succ])
            refine wpAnyH_take (i := 8) (v := .pointer (some ⟨gl, J + 2, none⟩)) rfl (by kernel_rfl) (by kernel_rfl) (by kernel_rfl) (fun _ _ _ h => h) (Or.inl ⟨by rfl, ?yb8⟩) hHeld ?rb8
            case yb8 => (intro w' hSw; go_simp; (first | done | rfl | (intro h; exfalso; omega)))
            (try simp only [Act.put, List.setIfInBounds_toArray, List.set_cons_zero, List.set_cons_succ, List.getElem_toArray, List.getElem_cons_zero, List.getElem_cons_succ])
            refine wpAnyH_take (i := 9) (v := .int .i64 (nth U (J + 2))) rfl (by kernel_rfl) (by kernel_rfl) (by kernel_rfl) (fun _ _ _ h => h) (Or.inl ⟨by rfl, ?yb9⟩) hHeld ?rb9
            case yb9 => (intro w' hSw; have cc : w'.cell? ⟨gl, (J + 2), none⟩ = some (.int .i64 (nth U (J + 2))) := hSw.cell UL.out.symm (J + 2) (by rw [UL.out]; omega); go_simp; (try with_reducible rfl))
            (try simp only [Act.put, List.setIfInBounds_toArray, List.set_cons_zero, List.set_cons_succ, List.getElem_toArray, List.getElem_cons_zero, List.getElem_cons_succ])
            refine wpAnyH_take (i := 10) (v := ?vb10) rfl (by kernel_rfl) (by kernel_rfl) (by kernel_rfl) (fun _ _ _ h => h) (Or.inl ⟨by rfl, ?yb10⟩) hHeld ?rb10
            case yb10 => (intro w' hSw; go_simp; (try with_reducible rfl))
            (try simp only [Act.put, List.setIfInBounds_toArray, List.set_cons_zero, List.set_cons_succ, List.getElem_toArray, List.getElem_cons_zero, List.getElem_cons_succ])
            refine wpAnyH_take (i := 11) (v := .pointer (some ⟨gl, J + 3, none⟩)) rfl (by kernel_rfl) (by kernel_rfl) (by kernel_rfl) (fun _ _ _ h => h) (Or.inl ⟨by rfl, ?yb11⟩) hHeld ?rb11
            case yb11 => (intro w' hSw; go_simp; (first | done | rfl | (intro h; exfalso; omega)))
            (try simp only [Act.put, List.setIfInBounds_toArray, List.set_cons_zero, List.set_cons_succ, List.getElem_toArray, List.getElem_cons_zero, List.getElem_cons_succ])
            refine wpAnyH_take (i := 12) (v := .int .i64 (nth U (J + 3))) rfl (by kernel_rfl) (by kernel_rfl) (by kernel_rfl) (fun _ _ _ h => h) (Or.inl ⟨by rfl, ?yb12⟩) hHeld ?rb12
            case yb12 => (intro w' hSw; have cc : w'.cell? ⟨gl, (J + 3), none⟩ = some (.int .i64 (nth U (J + 3))) := hSw.cell UL.out.symm (J + 3) (by rw [UL.out]; omega); go_simp; (try with_reducible rfl))
            (try simp only [Act.put, List.setIfInBounds_toArray, List.set_cons_zero, List.set_cons_succ, List.getElem_toArray, List.getElem_cons_zero, List.getElem_cons_succ])
            refine wpAnyH_take (i := 13) (v := ?vb13) rfl (by kernel_rfl) (by kernel_rfl) (by kernel_rfl) (fun _ _ _ h => h) (Or.inl ⟨by rfl, ?yb13⟩) hHeld ?rb13
            case yb13 => (intro w' hSw; go_simp; (try with_reducible rfl))
            (try simp only [Act.put, List.setIfInBounds_toArray, List.set_cons_zero, List.set_cons_succ, List.getElem_toArray, List.getElem_cons_zero, List.getElem_cons_succ])
            refine wpAnyH_take (i := 14) (v := .pointer (some ⟨gl, J + 4, none⟩)) rfl (by kernel_rfl) (by kernel_rfl) (by kernel_rfl) (fun _ _ _ h => h) (Or.inl ⟨by rfl, ?yb14⟩) hHeld ?rb14
            case yb14 => (intro w' hSw; go_simp; (first | done | rfl | (intro h; exfalso; omega)))
            (try simp only [Act.put, List.setIfInBounds_toArray, List.set_cons_zero, List.set_cons_succ, List.getElem_toArray, List.getElem_cons_zero, List.getElem_cons_succ])
            refine wpAnyH_take (i := 15) (v := .int .i64 (nth U (J + 4))) rfl (by kernel_rfl) (by kernel_rfl) (by kernel_rfl) (fun _ _ _ h => h) (Or.inl ⟨by rfl, ?yb15⟩) hHeld ?rb15
            case yb15 => (intro w' hSw; have cc : w'.cell? ⟨gl, (J + 4), none⟩ = some (.int .i64 (nth U (J + 4))) := hSw.cell UL.out.symm (J + 4) (by rw [UL.out]; omega); go_simp; (try with_reducible rfl))
            (try simp only [Act.put, List.setIfInBounds_toArray, List.set_cons_zero, List.set_cons_succ, List.getElem_toArray, List.getElem_cons_zero, List.getElem_cons_succ])
            refine wpAnyH_take (i := 16) (v := ?vb16) rfl (by kernel_rfl) (by kernel_rfl) (by kernel_rfl) (fun _ _ _ h => h) (Or.inl ⟨by rfl, ?yb16⟩) hHeld ?rb16
            case yb16 => (intro w' hSw; go_simp; (try with_reducible rfl))
            (try simp only [Act.put, List.setIfInBounds_toArray, List.set_cons_zero, List.set_cons_succ, List.getElem_toArray, List.getElem_cons_zero, List.getElem_cons_succ])
            refine wpAnyH_take (i := 17) (v := .pointer (some ⟨gl, J + 5, none⟩)) rfl (by kernel_rfl) (by kernel_rfl) (by kernel_rfl) (fun _ _ _ h => h) (Or.inl ⟨by rfl, ?yb17⟩) hHeld ?rb17
            case yb17 => (intro w' hSw; go_simp; (first | done | rfl | (intro h; exfalso; omega)))
            (try simp only [Act.put, List.setIfInBounds_toArray, List.set_cons_zero, List.set_cons_succ, List.getElem_toArray, List.getElem_cons_zero, List.getElem_cons_succ])
            refine wpAnyH_take (i := 18) (v := .int .i64 (nth U (J + 5))) rfl (by kernel_rfl) (by kernel_rfl) (by kernel_rfl) (fun _ _ _ h => h) (Or.inl ⟨by rfl, ?yb18⟩) hHeld ?rb18
            case yb18 => (intro w' hSw; have cc : w'.cell? ⟨gl, (J + 5), none⟩ = some (.int .i64 (nth U (J + 5))) := hSw.cell UL.out.symm (J + 5) (by rw [UL.out]; omega); go_simp; (try with_reducible rfl))
            (try simp only [Act.put, List.setIfInBounds_toArray, List.set_cons_zero, List.set_cons_succ, List.getElem_toArray, List.getElem_cons_zero, List.getElem_cons_succ])
            refine wpAnyH_take (i := 19) (v := .agg #[.int .i64 (nth U (J + 2)), .int .i64 (nth U (J + 3)), .int .i64 (nth U (J + 4)), .int .i64 (nth U (J + 5))]) rfl (by kernel_rfl) (by kernel_rfl) (by kernel_rfl) (fun _ _ _ h => h) (Or.inl ⟨by rfl, ?yb19⟩) hHeld ?rb19
            case yb19 => (intro w' hSw; go_simp; (first | done | rfl | skip))
            (try simp only [Act.put, List.setIfInBounds_toArray, List.set_cons_zero, List.set_cons_succ, List.getElem_toArray, List.getElem_cons_zero, List.getElem_cons_succ])
            refine wpAnyH_take (i := 20) (v := ?vb20) rfl (by kernel_rfl) (by kernel_rfl) (by kernel_rfl) (fun _ _ _ h => h) (Or.inl ⟨by rfl, ?yb20⟩) hHeld ?rb20
            case yb20 => (intro w' hSw; go_simp; (try with_reducible rfl))
            (try simp only [Act.put, List.setIfInBounds_toArray, List.set_cons_zero, List.set_cons_succ, List.getElem_toArray, List.getElem_cons_zero, List.getElem_cons_succ])
            refine wpAnyH_take (i := 21) (v := .pointer (some ⟨gl, J + 6, none⟩)) rfl (by kernel_rfl) (by kernel_rfl) (by kernel_rfl) (fun _ _ _ h => h) (Or.inl ⟨by rfl, ?yb21⟩) hHeld ?rb21
            case yb21 => (intro w' hSw; go_simp; (first | done | rfl | (intro h; exfalso; omega)))
            (try simp only [Act.put, List.setIfInBounds_toArray, List.set_cons_zero, List.set_cons_succ, List.getElem_toArray, List.getElem_cons_zero, List.getElem_cons_succ])
            refine wpAnyH_take (i := 22) (v := .int .i64 (nth U (J + 6))) rfl (by kernel_rfl) (by kernel_rfl) (by kernel_rfl) (fun _ _ _ h => h) (Or.inl ⟨by rfl, ?yb22⟩) hHeld ?rb22
            case yb22 => (intro w' hSw; have cc : w'.cell? ⟨gl, (J + 6), none⟩ = some (.int .i64 (nth U (J + 6))) := hSw.cell UL.out.symm (J + 6) (by rw [UL.out]; omega); go_simp; (try with_reducible rfl))
            (try simp only [Act.put, List.setIfInBounds_toArray, List.set_cons_zero, List.set_cons_succ, List.getElem_toArray, List.getElem_cons_zero, List.getElem_cons_succ])
            refine wpAnyH_take (i := 23) (v := ?vb23) rfl (by kernel_rfl) (by kernel_rfl) (by kernel_rfl) (fun _ _ _ h => h) (Or.inl ⟨by rfl, ?yb23⟩) hHeld ?rb23
            case yb23 => (intro w' hSw; go_simp; (try with_reducible rfl))
            (try simp only [Act.put, List.setIfInBounds_toArray, List.set_cons_zero, List.set_cons_succ, List.getElem_toArray, List.getElem_cons_zero, List.getElem_cons_succ])
            refine wpAnyH_take (i := 24) (v := .pointer (some ⟨gl, J + 7, none⟩)) rfl (by kernel_rfl) (by kernel_rfl) (by kernel_rfl) (fun _ _ _ h => h) (Or.inl ⟨by rfl, ?yb24⟩) hHeld ?rb24
            case yb24 => (intro w' hSw; go_simp; (first | done | rfl | (intro h; exfalso; omega)))
            (try simp only [Act.put, List.setIfInBounds_toArray, List.set_cons_zero, List.set_cons_succ, List.getElem_toArray, List.getElem_cons_zero, List.getElem_cons_succ])
            refine wpAnyH_take (i := 25) (v := .int .i64 (nth U (J + 7))) rfl (by kernel_rfl) (by kernel_rfl) (by kernel_rfl) (fun _ _ _ h => h) (Or.inl ⟨by rfl, ?yb25⟩) hHeld ?rb25
            case yb25 => (intro w' hSw; have cc : w'.cell? ⟨gl, (J + 7), none⟩ = some (.int .i64 (nth U (J + 7))) := hSw.cell UL.out.symm (J + 7) (by rw [UL.out]; omega); go_simp; (try with_reducible rfl))
            (try simp only [Act.put, List.setIfInBounds_toArray, List.set_cons_zero, List.set_cons_succ, List.getElem_toArray, List.getElem_cons_zero, List.getElem_cons_succ])
            refine wpAnyH_take (i := 26) (v := .agg (arrI [nth U J, nth U (J + 1), nth U (J + 2), nth U (J + 3), nth U (J + 4), nth U (J + 5), nth U (J + 6), nth U (J + 7)])) rfl (by kernel_rfl) (by kernel_rfl) (by kernel_rfl) (fun _ _ _ h => h) (Or.inl ⟨by rfl, ?yb26⟩) hHeld ?rb26
            case yb26 => (intro w' hSw; go_simp; (first | done | rfl | skip))
            (try simp only [Act.put, List.setIfInBounds_toArray, List.set_cons_zero, List.set_cons_succ, List.getElem_toArray, List.getElem_cons_zero, List.getElem_cons_succ])
            refine wpAnyH_take (i := 27) (v := ?vb27) rfl (by kernel_rfl) (by kernel_rfl) (by kernel_rfl) (fun _ _ _ h => h) (Or.inl ⟨by rfl, ?yb27⟩) hHeld ?rb27
            case yb27 => (intro w' hSw; go_simp; (try with_reducible rfl))
            (try simp only [Act.put, List.setIfInBounds_toArray, List.set_cons_zero, List.set_cons_succ, List.getElem_toArray, List.getElem_cons_zero, List.getElem_cons_succ])
            refine wpAnyH_take (i := 28) (v := .pointer (some ⟨bp, J, none⟩)) rfl (by kernel_rfl) (by kernel_rfl) (by kernel_rfl) (fun _ _ _ h => h) (Or.inl ⟨by rfl, ?yb28⟩) hHeld ?rb28
            case yb28 => (intro w' hSw; go_simp; (first | done | rfl | omega | skip))
            (try simp only [Act.put, List.setIfInBounds_toArray, List.set_cons_zero, List.set_cons_succ, List.getElem_toArray, List.getElem_cons_zero, List.getElem_cons_succ])
            refine wpAnyH_ready (rs := [29]) (by kernel_rfl) (by simp) (AllReadyH.cons rfl (fun K hK => ?_) AllReadyH.nil)
            (try simp only [Act.put, List.setIfInBounds_toArray, List.set_cons_zero, List.set_cons_succ, List.getElem_toArray, List.getElem_cons_zero, List.getElem_cons_succ])
            refine step_storeI rfl 25 _ _ rfl bp J 28 rs [nth U J, nth U (J + 1), nth U (J + 2), nth U (J + 3), nth U (J + 4), nth U (J + 5), nth U (J + 6), nth U (J + 7)] rfl rfl NN.out.1 (by rw [RSL.out]; simp; omega) size8s ?_
            intro w9 b9 g9
            replace NN := hide (NN.out.turn g9 b9 (by omega) (by omega))
            refine hK.out _ _ NN.out.2.1 (fun hHeld => ?_)
            clear hK
            (try simp only [Act.put, List.setIfInBounds_toArray, List.set_cons_zero, List.set_cons_succ, List.getElem_toArray, List.getElem_cons_zero, List.getElem_cons_succ])
            refine wpAnyH_done (by kernel_rfl) ?_ _
            clear hHeld
            go_wp2_with fail
            go_roundw
            case rel => exact ⟨k + 1, _, by go_num, by omega, PN.out, NN.out⟩
            case measure => simp [intOf]; omega
          · obtain rfl : k = 2 := by omega
            rw [show ((2 : Nat) : Int) = 2 from rfl] at *
            have hrs := partU_all hP.out UL.out
            subst hrs
            have NN := hide hN.out
            clear hP hN
            have GG := hide (fun wr g => GP.out rs UL.out U64.out wr g)
            have PP := hide (fun wr => PR.out rs UL.out U64.out wr)
            clear GP PR
            rcases hgd : goodB rs with _ | _
            · rw [hgd] at GG
              go_wp2_with (first | refine wpList_load_arr rfl 28 _ rfl _ rfl _ NN.out.1 _ Tryd.underlying28 rfl (by rw [UL.out]; exact size25) ?_)
              refine (GG.out _ NN.out.2.2.2).mono ?_
              rintro e w9 ⟨rfl, g9⟩
              replace NN := hide (NN.out.grow g9)
              clear g9 GG
              have e1 := ER.out h32 hgd
              have F := hide (show ∀ w', w.grownBy w' none → UnP w b (.returned (.tuple #[.agg (arrI Z), .int .i64 2])) w' from fun w' g => ⟨by rw [e1, unL_no b (by rw [e1]; omega), HZ.out], g⟩)
              have PU := put_arr (rs' := Z) NN.out.2.2.1 rfl
              have B6 := hide NN.out.2.2.1
              have PB1 := hide PU.1
              have PG := hide (grown_own NN.out.2.2.2 PU.2 (Nat.le_refl _))
              clear PU e1 NN
              go_wp2_with (first | refine wpList_store_arr rfl 28 _ _ rfl _ Z Z rfl rfl B6.out rfl (by rw [ZL.out]; exact size25) ?_)
              have hlv := loadVar_arr PB1.out _ Tryd.underlying28 rfl (by rw [ZL.out]; exact size25)
              refine bodyPost_ret (v := .tuple #[.agg (arrI Z), .int .i64 2]) ?_ rfl (F.out _ PG.out)
              simp [results, Tryd.results16, asAddr, Act.put, hlv]
            · rw [hgd] at GG
              go_wp2_with (first | refine wpList_load_arr rfl 28 _ rfl _ rfl _ NN.out.1 _ Tryd.underlying28 rfl (by rw [UL.out]; exact size25) ?_)
              refine (GG.out _ NN.out.2.2.2).mono ?_
              rintro e w9 ⟨rfl, g9⟩
              replace NN := hide (NN.out.grow g9)
              clear g9 GG
              go_wp2_with (first | refine wpList_load_arr rfl 28 _ rfl _ rfl _ NN.out.1 _ Tryd.underlying28 rfl (by rw [UL.out]; exact size25) ?_)
              refine (PP.out _).mono ?_
              rintro e w10 ⟨rfl, g10⟩
              replace NN := hide (NN.out.grow g10)
              clear g10 PP
              by_cases hpp : parL rs = pB X
              · have hq : (pB X == parL rs) = true := beq_iff_eq.2 hpp.symm
                have e1 := EK.out h32 hgd hpp
                have F := hide (show ∀ w', w.grownBy w' none → UnP w b (.returned (.tuple #[.agg (arrI rs), .int .i64 0])) w' from fun w' g => ⟨by rw [EL.out e1, e1], g⟩)
                have PU := put_arr (rs' := rs) NN.out.2.2.1 (by rw [UL.out, ZL.out])
                have B6 := hide NN.out.2.2.1
                have PB1 := hide PU.1
                have PG := hide (grown_own NN.out.2.2.2 PU.2 (Nat.le_refl _))
                clear PU e1
                generalize parL rs = p1 at *
                generalize pB X = p2 at *
                go_wp2_with (first | refine wpList_load_arr rfl 28 _ rfl _ rfl _ NN.out.1 _ Tryd.underlying28 rfl (by rw [UL.out]; exact size25) ?_ | refine wpList_store_arr rfl 28 _ _ rfl _ Z rs rfl rfl B6.out (by rw [UL.out, ZL.out]) (by rw [ZL.out]; exact size25) ?_)
                have hlv := loadVar_arr PB1.out _ Tryd.underlying28 rfl (by rw [UL.out]; exact size25)
                refine bodyPost_ret (v := .tuple #[.agg (arrI rs), .int .i64 0]) ?_ rfl (F.out _ PG.out)
                simp [results, Tryd.results16, asAddr, Act.put, hlv]
              · have hq : (pB X == parL rs) = false := beq_eq_false_iff_ne.2 (fun e => hpp e.symm)
                have e1 := EP.out h32 hgd hpp
                have F := hide (show ∀ w', w.grownBy w' none → UnP w b (.returned (.tuple #[.agg (arrI Z), .int .i64 3])) w' from fun w' g => ⟨by rw [e1, unL_no b (by rw [e1]; omega), HZ.out], g⟩)
                have PU := put_arr (rs' := Z) NN.out.2.2.1 rfl
                have B6 := hide NN.out.2.2.1
                have PB1 := hide PU.1
                have PG := hide (grown_own NN.out.2.2.2 PU.2 (Nat.le_refl _))
                clear PU e1 NN
                generalize parL rs = p1 at *
                generalize pB X = p2 at *
                go_wp2_with (first | refine wpList_store_arr rfl 28 _ _ rfl _ Z Z rfl rfl B6.out rfl (by rw [ZL.out]; exact size25) ?_)
                have hlv := loadVar_arr PB1.out _ Tryd.underlying28 rfl (by rw [ZL.out]; exact size25)
                refine bodyPost_ret (v := .tuple #[.agg (arrI Z), .int .i64 3]) ?_ rfl (F.out _ PG.out)
                simp [results, Tryd.results16, asAddr, Act.put, hlv]
      · rw [if_neg h32, if_neg (show ¬ X % 32 < 0 by omega)] at SG
        have e1 := EF.out h32
        have F := hide (show ∀ w', w.grownBy w' none → UnP w b (.returned (.tuple #[.agg (arrI Z), .int .i64 3])) w' from fun w' g => ⟨by rw [e1, unL_no b (by rw [e1]; omega), HZ.out], g⟩)
        have PU := put_arr (rs' := Z) M6.out.2.2.2.2.1 rfl
        have B6 := hide M6.out.2.2.2.2.1
        have PB1 := hide PU.1
        have PG := hide (grown_own M6.out.2.2.2.2.2.1 PU.2 (Nat.le_refl _))
        clear PU e1 M6
        go_wp2_with fail
        refine SG.out.mono ?_
        rintro e w7 ⟨rfl, rfl⟩
        clear SG
        go_wp2_with (first | refine wpList_store_arr rfl 28 _ _ rfl _ Z Z rfl rfl B6.out rfl (by rw [ZL.out]; exact size25) ?_)
        have hlv := loadVar_arr PB1.out _ Tryd.underlying28 rfl (by rw [ZL.out]; exact size25)
        refine bodyPost_ret (v := .tuple #[.agg (arrI Z), .int .i64 3]) ?_ rfl (F.out _ PG.out)
        simp [results, Tryd.results16, asAddr, Act.put, hlv]
theorem refUnpack_any (v : Value) (b : List Int) (w : World) (hv : Byts w v b) (hb : byB b) (hl2 : b.length ≤ 1000000000000000000) (at' : Addr) (ct : Nat) (hT : TabS w 0 at' ct wid8 8) :
    Calls Tryd.prog 16 #[v] w (UnP w b) := by
  by_cases hl : b.length = 15
  · by_cases hs : chN b 14 = nth b 14
    · exact refUnpack_main v b w hv hb hl hs at' ct hT
    · exact refUnpack_sum v b w hv hb hl hs
  · exact refUnpack_size v b w hv hl hl2
end Go.Proofs.YtjgdkinnpgiabaaDoor
