/- Contracts of package pulses' search, All and Few. -/
import Derived.Test.YtdeappknlcmbbabPulE
import Derived.BigQuiet
import Derived.Deep.QuietTactic
namespace Go.Proofs.Ytdeappknlcmbbab
open Go.RowKit
set_option linter.unusedVariables false
set_option linter.unusedSimpArgs false
set_option maxHeartbeats 1000000

theorem enters_All11 (args : Array Value) (u : World) : (callFunc 27 args).run Try.prog u = .ok (.enter 27 args) u := by kernel_rfl
set_option maxRecDepth 100000 in
theorem pulAll11_walks (w0 : World) : Walks w0 27 #[] dig 10000 := by
  intro wr base nV capsV Inv g hen hst hV hb hI
  have CA := hide (pulWalkAll_all nV capsV hen base Inv hst 0 hV (zeros 4) (pre_start _ rfl) wr hb (by simpa using hI))
  have hbd := build4
  rw [show ((0 : Nat) : Int) = 0 from rfl, show (0 + 1) * 10 ^ 4 = 10000 from rfl] at CA
  clear hst hV hI hb
  rw [Array.append_empty]
  go_enter Try.func27, Try.ntmps27
  go_wp2_with fail
  refine CA.out.mono ?_
  rintro e w2 ⟨rfl, j2, f2⟩
  have F := hide (And.intro j2 f2)
  clear CA j2 f2 hbd
  go_wp2_with fail
  first | go_end0 | refine bodyPost_ret (results_none rfl _ _ _) rfl ?_
  exact ⟨rfl, F.out⟩
/-- What a search that is handed in does with the table. -/
def Finds (w0 : World) (nF : Nat) (capsF : Array Value) (r X : List Int) : Prop :=
  ∀ (wr : World) (B : Nat), w0.grownBy wr none → Blk wr B 63 (tbl r) → Calls Try.prog nF (#[.pointer (some ⟨B, 0, none⟩)] ++ capsF) wr (AnsG wr (.agg (arrI X)))
theorem enters_All1 (args : Array Value) (u : World) : (callFunc 25 args).run Try.prog u = .ok (.enter 25 args) u := by kernel_rfl
set_option maxRecDepth 100000 in
theorem pulAll1_finds (w0 : World) (vd : Value) (d r : List Int) (bd : Nat) (hd : Ints w0 vd d) (hdl : d.length = 40) (hc : w0.cell? ⟨bd, 0, none⟩ = some vd) : Finds w0 25 #[.pointer (some ⟨bd, 0, none⟩)] r (allX d r) := by
  intro wr B g hB
  have hz4 := zero_arr zArr4
  have ga := grown_alloc wr (.cells (arrI (zeros 4)) 22) none
  have BE := hide (pulBest_any vd B d r dig 10000 (wr.alloc (.cells (arrI (zeros 4)) 22)) (Ints_keep hd (grown_none g ga)) hdl (hB.keep ga) (fun m hm => dig_good m hm) 27 #[] enters_All11 (pulAll11_walks _))
  rw [show (bsS (cS d) (eS d r) dig 10000).1 = allX d r from rfl] at BE
  have cd := grown_keep (grown_none g ga) hc
  have BZ := hide (Blk.new wr 22 (zeros 4))
  have GA := hide ga
  have HX := hide (allX_good d r).1
  obtain ⟨ad, cp, rfl, _, _⟩ := hd
  clear ga hB g hc hdl
  generalize allX d r = X at *
  go_enter Try.func25, Try.ntmps25
  go_upto_region 1 with fail
  generalize wr.alloc (.cells (arrI (zeros 4)) 22) = W1 at *
  go_wp2_with fail
  refine BE.out.mono ?_
  rintro e w2 ⟨rfl, g2⟩
  have B2 := hide (BZ.out.keep g2)
  have G2 := hide (grown_none GA.out g2)
  clear g2 BE cd BZ GA hz4
  go_wp2_with (first | refine wpList_store_arr rfl 22 _ _ rfl _ (zeros 4) X rfl rfl B2.out (by rw [HX.out, zeros_len]) (by rw [zeros_len]; exact size4) ?_)
  have PU := put_arr (rs' := X) B2.out (by rw [HX.out, zeros_len])
  have hlv := loadVar_arr PU.1 _ Try.underlying22 rfl (by rw [HX.out]; exact size4)
  have GF := hide (grown_own G2.out PU.2 (Nat.le_refl _))
  refine bodyPost_ret (v := .agg (arrI X)) ?_ rfl ⟨rfl, GF.out⟩
  simp [results, Try.results25, asAddr, Act.put, hlv]
theorem enters_Few11 (args : Array Value) (u : World) : (callFunc 30 args).run Try.prog u = .ok (.enter 30 args) u := by kernel_rfl
set_option maxRecDepth 100000 in
theorem pulFew11_walks (w0 : World) (x : List Int) (hx : x.length = 4) (t : Nat) (ht : t < 4) (bi bt : Nat) (hb1 : Blk w0 bi 22 x) (hc : w0.cell? ⟨bt, 0, none⟩ = some (.int .i64 (t : Int))) : Walks w0 30 #[.pointer (some ⟨bi, 0, none⟩), .pointer (some ⟨bt, 0, none⟩)] (fun p => x.set t (p : Int)) 10 := by
  intro wr base nV capsV Inv g hen hst hV hb hI
  have CA := hide (pulWalkTrack_any nV capsV hen base Inv hst x hx t ht hV wr hb hI)
  have ct := grown_keep g hc
  have BB := hide (hb1.keep g)
  clear hst hV hI hb hc hb1 g
  show Calls Try.prog 30 #[.func (.func nV) #[] capsV, .pointer (some ⟨bi, 0, none⟩), .pointer (some ⟨bt, 0, none⟩)] wr _
  go_enter Try.func30, Try.ntmps30
  go_wp2_with (first | refine wpList_load_arr rfl 22 _ rfl _ rfl _ BB.out _ Try.underlying22 rfl (by rw [hx]; exact size4) ?_)
  refine CA.out.mono ?_
  rintro e w2 ⟨rfl, j2, f2⟩
  have F := hide (And.intro j2 f2)
  clear CA j2 f2 ct BB
  go_wp2_with fail
  first | go_end0 | refine bodyPost_ret (results_none rfl _ _ _) rfl ?_
  exact ⟨rfl, F.out⟩
theorem enters_Few1 (args : Array Value) (u : World) : (callFunc 29 args).run Try.prog u = .ok (.enter 29 args) u := by kernel_rfl
/-- Memory of Few: the answer's place, and the places. -/
def FwM (w wr : World) (x : List Int) : Prop := Mem2 w wr 22 22 (zeros 4) x
theorem FwM.put {w wr : World} {x x' : List Int} (h : FwM w wr x) (hl : x'.length = x.length) : FwM w (putArr wr (w.heap.size + 1) x') x' := by
  have PU := put_arr (rs' := x') h.2.1 hl
  exact ⟨h.1.keepBut PU.2 (by omega), PU.1, grown_own h.2.2 PU.2 (by omega)⟩
theorem zInt : (Try.prog.info? 3).bind (·.zero) = some (.int .i64 0) := by kernel_rfl
set_option maxRecDepth 100000 in
theorem pulFew1_finds (w0 : World) (vd : Value) (d r : List Int) (bd : Nat) (hd : Ints w0 vd d) (hdl : d.length = 40) (hc : w0.cell? ⟨bd, 0, none⟩ = some vd) : Finds w0 29 #[.pointer (some ⟨bd, 0, none⟩)] r (fewX d r) := by
  intro wE B g hB
  have hmf : ∀ (fn : Fn) (first cap : Array Value) (w : World), (Instr.makeFunc fn first cap).run Try.prog w = .ok (.func fn first cap) w := fun _ _ _ _ => rfl
  have hz4 := zero_arr zArr4
  have M0 := hide (show FwM wE ((wE.alloc (.cells (arrI (zeros 4)) 22)).alloc (.cells (arrI (zeros 4)) 22)) (zeros 4) from laid2 wE 22 22 (zeros 4) (zeros 4))
  have BE := hide (fun W (gW : wE.grownBy W none) (x : List Int) (hx : x.length = 4) (gx : goodX x = true) (t : Nat) (ht : t < 4) (bi bt : Nat) (hb1 : Blk W bi 22 x) (hc' : W.cell? ⟨bt, 0, none⟩ = some (.int .i64 (t : Int))) =>
    pulBest_any vd B d r (fun p => x.set t (p : Int)) 10 W (Ints_keep hd (grown_none g gW)) hdl (hB.keep gW) (fun m hm => ⟨by simpa using hx, goodX_set gx _ _ (by omega) (by omega)⟩) 30 #[.pointer (some ⟨bi, 0, none⟩), .pointer (some ⟨bt, 0, none⟩)] enters_Few11 (pulFew11_walks W x hx t ht bi bt hb1 hc'))
  have CD := hide (fun W (gW : wE.grownBy W none) => grown_keep (grown_none g gW) hc)
  have GD := hide (fewN_good (cS d) (eS d r))
  have STEP := hide (fun k => (show fewN (cS d) (eS d r) (k + 1) = (bsS (cS d) (eS d r) (fun p => (fewN (cS d) (eS d r) k).set (k % 4) (p : Int)) 10).1 from rfl))
  obtain ⟨ad, cp, rfl, _, _⟩ := hd
  rw [show fewX d r = fewN (cS d) (eS d r) 8 from rfl]
  clear hB g hc hdl
  go_enter Try.func29, Try.ntmps29
  go_wp2_with fail
  generalize (wE.alloc _).alloc _ = W0 at *
  clear hz4
  go_loopw [6, 8] (fun i _ W => ∃ n : Nat, i = .int .i64 n ∧ n ≤ 2 ∧ Hid (FwM wE W (fewN (cS d) (eS d r) (4 * n)))) (fun i _ _ => 2 - (intOf i).toNat)
  case atStart => exact ⟨0, rfl, Nat.zero_le _, M0.out⟩
  case round =>
    obtain ⟨n, rfl, hn, hM⟩ := hrel
    clear M0
    by_cases hn2 : n < 2
    · have i1 : (n : Int) < 2 := by omega
      go_wp2_with fail
      go_loopw [8] (fun i W => ∃ t : Nat, i = .int .i64 t ∧ t ≤ 4 ∧ Hid (FwM wE W (fewN (cS d) (eS d r) (4 * n + t)))) (fun i _ => 4 - (intOf i).toNat)
      case atStart => exact ⟨0, rfl, Nat.zero_le _, hM.out⟩
      case round =>
        obtain ⟨t, rfl, ht, hM⟩ := hrel
        by_cases ht4 : t < 4
        · have i2 : (t : Int) < 4 := by omega
          have ga := grown_alloc wr (.cells #[.int .i64 (t : Int)] 3) none
          have M1 := hide (show FwM wE (wr.alloc (.cells #[.int .i64 (t : Int)] 3)) (fewN (cS d) (eS d r) (4 * n + t)) from Mem2.keep hM.out ga)
          have ct := (cell_of_heap (heap_new wr (.cells #[.int .i64 (t : Int)] 3)) 0).trans (show (#[Value.int .i64 (t : Int)] : Array Value)[0]? = some (.int .i64 (t : Int)) from rfl)
          have BB := hide (BE.out _ M1.out.2.2 _ (GD.out (4 * n + t)).1 (GD.out (4 * n + t)).2 t ht4 (wE.heap.size + 1) wr.heap.size M1.out.2.1 ct)
          have cd := CD.out _ M1.out.2.2
          have EN := STEP.out (4 * n + t)
          rw [show (4 * n + t) % 4 = t by omega] at EN
          rw [← EN] at BB
          have L1 := hide (GD.out (4 * n + t)).1
          have L2 := hide (GD.out (4 * n + t + 1)).1
          clear EN ct hM BE CD GD STEP ga
          generalize fewN (cS d) (eS d r) (4 * n + t) = X at *
          generalize hY : fewN (cS d) (eS d r) (4 * n + t + 1) = Y at *
          have EY := hide hY
          clear hY
          go_upto_region 7 with fail
          generalize wr.alloc (.cells #[.int .i64 (t : Int)] 3) = W1 at *
          go_wp2_with fail
          refine BB.out.mono ?_
          rintro e w2 ⟨rfl, g2⟩
          have M2 := hide (show FwM wE w2 X from Mem2.keep M1.out g2)
          have BI := hide M2.out.2.1
          have M3 := hide (M2.out.put (x' := Y) (by rw [L1.out, L2.out]))
          clear g2 M1 M2 BB cd
          go_upto_region 8 with (first | refine wpList_store_arr rfl 22 _ _ rfl _ X Y rfl rfl BI.out (by rw [L1.out, L2.out]) (by rw [L1.out]; exact size4) ?_)
          (try simp only [Act.put])
          clear BI
          generalize putArr w2 _ Y = W3 at *
          go_wp2_with fail
          go_roundw
          case rel => exact ⟨t + 1, by go_num, by omega, by rw [show 4 * n + (t + 1) = 4 * n + t + 1 from rfl, EY.out]; exact M3.out⟩
          case measure => simp [intOf]; omega
        · obtain rfl : t = 4 := by omega
          have NM := hM
          rw [show 4 * n + 4 = 4 * (n + 1) by omega] at NM
          clear hM
          rw [show ((4 : Nat) : Int) = 4 from rfl]
          go_wp2_with fail
          go_roundw
          case rel => exact ⟨n + 1, by go_num, by omega, NM.out⟩
          case measure => simp [intOf]; omega
    · obtain rfl : n = 2 := by omega
      have BA := hide hM.out.2.1
      have BZ := hide hM.out.1
      have GG := hide hM.out.2.2
      have HX := hide (GD.out (4 * 2)).1
      clear hM BE CD GD STEP hmf
      rw [show 4 * 2 = 8 from rfl] at *
      generalize fewN (cS d) (eS d r) 8 = X at *
      rw [show ((2 : Nat) : Int) = 2 from rfl]
      go_wp2_with (first | refine wpList_load_arr rfl 22 _ rfl _ rfl _ BA.out _ Try.underlying22 rfl (by rw [HX.out]; exact size4) ?_ | refine wpList_store_arr rfl 22 _ _ rfl _ (zeros 4) X rfl rfl BZ.out (by rw [HX.out, zeros_len]) (by rw [zeros_len]; exact size4) ?_)
      have PU := put_arr (rs' := X) BZ.out (by rw [HX.out, zeros_len])
      have hlv := loadVar_arr PU.1 _ Try.underlying22 rfl (by rw [HX.out]; exact size4)
      have GF := hide (grown_own GG.out PU.2 (Nat.le_refl _))
      refine bodyPost_ret (v := .agg (arrI X)) ?_ rfl ⟨rfl, GF.out⟩
      simp [results, Try.results29, asAddr, Act.put, hlv]
end Go.Proofs.Ytdeappknlcmbbab
