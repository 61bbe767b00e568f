/- Contracts of package pulses' All and Few. -/
import Derived.Test.YtdeappknlcmbbabPulG
import Derived.BigQuiet
import Derived.Deep.QuietTactic
namespace Go.Proofs.Ytdeappknlcmbbab
open Go.RowKit
set_option linter.unusedVariables false
set_option linter.unusedSimpArgs false
set_option maxHeartbeats 1000000

theorem seX_len (d r X : List Int) (h : X.length = 4) : (seX d r X).length = 4 := by unfold seX; split; exact h; rfl
theorem fewX_good (d r : List Int) : (fewX d r).length = 4 ∧ goodX (fewX d r) = true := fewN_good (cS d) (eS d r) 8
theorem pulSearch_any (vd vr : Value) (d r : List Int) (w : World) (hd : Ints w vd d) (hr : Ints w vr r) (nF : Nat) (capsF : Array Value) (hen : ∀ args u, (callFunc nF args).run Try.prog u = .ok (.enter nF args) u) (X : List Int) (hX : X.length = 4) (gX : goodX X = true) (HF : d.length = 40 → Finds w nF capsF r X) (hl : d.length ≤ 1000000000000000000) (hl2 : r.length ≤ 1000000000000000000) :
    Calls Try.prog 24 #[vd, vr, .func (.func nF) #[] capsF] w (SrchE w (seX d r X) (seG d r X) (seE d r)) := by
  by_cases h : d.length = 40 ∧ r.length = 40
  · exact pulSearch_right vd vr d r w hd hr nF capsF hen X hX gX (fun _ => HF h.1) h.1 h.2
  · obtain ⟨e1, e2, e3⟩ := seE_size h X
    rw [e1, e2, e3]
    exact pulSearch_size vd vr d r w hd hr _ h hl hl2
set_option maxRecDepth 100000 in
theorem pulAll_any (vd vr : Value) (d r : List Int) (w : World) (hd : Ints w vd d) (hr : Ints w vr r) (hl : d.length ≤ 1000000000000000000) (hl2 : r.length ≤ 1000000000000000000) :
    Calls Try.prog 15 #[vd, vr] w (SrchE w (seX d r (allX d r)) (seG d r (allX d r)) (seE d r)) := by
  have hmf : ∀ (fn : Fn) (first cap : Array Value) (w : World), (Instr.makeFunc fn first cap).run Try.prog w = .ok (.func fn first cap) w := fun _ _ _ _ => rfl
  have hz4 := zero_arr zArr4
  have g1 := grown_alloc w (.cells #[vd] 25) none
  have h1 := heap_new w (.cells #[vd] 25)
  have g2 := grown_alloc (w.alloc (.cells #[vd] 25)) (.cells (arrI (zeros 4)) 22) none
  have b2 := Blk.new1 w (.cells #[vd] 25) 22 (zeros 4)
  have c1 := (cell_of_heap (heap_grown h1 g2 (by simp)) 0).trans (show (#[vd] : Array Value)[0]? = some vd from rfl)
  have gg := grown_none g1 g2
  have SE := hide (pulSearch_any vd vr d r _ (Ints_keep hd gg) (Ints_keep hr gg) 25 #[.pointer (some ⟨w.heap.size, 0, none⟩)] enters_All1 (allX d r) (allX_good d r).1 (allX_good d r).2 (fun h => pulAll1_finds _ vd d r w.heap.size (Ints_keep hd gg) h c1) hl hl2)
  have HX := hide (seX_len d r (allX d r) (allX_good d r).1)
  have BZ := hide b2
  have GG := hide gg
  obtain ⟨ad, cp, rfl, _, _⟩ := hd
  obtain ⟨ar, cr, rfl, _, _⟩ := hr
  clear g1 g2 h1 b2 gg hl hl2
  generalize seX d r (allX d r) = X at *
  generalize seG d r (allX d r) = G at *
  generalize seE d r = en at *
  go_enter Try.func15, Try.ntmps15
  go_upto_region 1 with fail
  generalize (w.alloc _).alloc _ = W1 at *
  clear hz4
  go_wp2_with fail
  refine SE.out.mono ?_
  rintro e w2 ⟨rfl, g2⟩
  have B2 := hide (BZ.out.keep g2)
  have G2 := hide (grown_none GG.out g2)
  clear g2 SE c1 BZ GG
  go_wp2_with (first | refine wpList_store_arr rfl 22 _ _ rfl _ (zeros 4) X rfl rfl B2.out (by rw [HX.out, zeros_len]) (by rw [zeros_len]; exact size4) ?_)
  have PU := put_arr (rs' := X) B2.out (by rw [HX.out, zeros_len])
  have hlv := loadVar_arr PU.1 _ Try.underlying22 rfl (by rw [HX.out]; exact size4)
  have GF := hide (grown_own G2.out PU.2 (by omega))
  refine bodyPost_ret (v := .tuple #[.agg (arrI X), .int .i64 G, .int .i64 en]) ?_ rfl ⟨rfl, GF.out⟩
  simp [results, Try.results15, asAddr, Act.put, hlv]
set_option maxRecDepth 100000 in
theorem pulFew_any (vd vr : Value) (d r : List Int) (w : World) (hd : Ints w vd d) (hr : Ints w vr r) (hl : d.length ≤ 1000000000000000000) (hl2 : r.length ≤ 1000000000000000000) :
    Calls Try.prog 16 #[vd, vr] w (SrchE w (seX d r (fewX d r)) (seG d r (fewX d r)) (seE d r)) := by
  have hmf : ∀ (fn : Fn) (first cap : Array Value) (w : World), (Instr.makeFunc fn first cap).run Try.prog w = .ok (.func fn first cap) w := fun _ _ _ _ => rfl
  have hz4 := zero_arr zArr4
  have g1 := grown_alloc w (.cells #[vd] 25) none
  have h1 := heap_new w (.cells #[vd] 25)
  have g2 := grown_alloc (w.alloc (.cells #[vd] 25)) (.cells (arrI (zeros 4)) 22) none
  have b2 := Blk.new1 w (.cells #[vd] 25) 22 (zeros 4)
  have c1 := (cell_of_heap (heap_grown h1 g2 (by simp)) 0).trans (show (#[vd] : Array Value)[0]? = some vd from rfl)
  have gg := grown_none g1 g2
  have SE := hide (pulSearch_any vd vr d r _ (Ints_keep hd gg) (Ints_keep hr gg) 29 #[.pointer (some ⟨w.heap.size, 0, none⟩)] enters_Few1 (fewX d r) (fewX_good d r).1 (fewX_good d r).2 (fun h => pulFew1_finds _ vd d r w.heap.size (Ints_keep hd gg) h c1) hl hl2)
  have HX := hide (seX_len d r (fewX d r) (fewX_good d r).1)
  have BZ := hide b2
  have GG := hide gg
  obtain ⟨ad, cp, rfl, _, _⟩ := hd
  obtain ⟨ar, cr, rfl, _, _⟩ := hr
  clear g1 g2 h1 b2 gg hl hl2
  generalize seX d r (fewX d r) = X at *
  generalize seG d r (fewX d r) = G at *
  generalize seE d r = en at *
  go_enter Try.func16, Try.ntmps16
  go_upto_region 1 with fail
  generalize (w.alloc _).alloc _ = W1 at *
  clear hz4
  go_wp2_with fail
  refine SE.out.mono ?_
  rintro e w2 ⟨rfl, g2⟩
  have B2 := hide (BZ.out.keep g2)
  have G2 := hide (grown_none GG.out g2)
  clear g2 SE c1 BZ GG
  go_wp2_with (first | refine wpList_store_arr rfl 22 _ _ rfl _ (zeros 4) X rfl rfl B2.out (by rw [HX.out, zeros_len]) (by rw [zeros_len]; exact size4) ?_)
  have PU := put_arr (rs' := X) B2.out (by rw [HX.out, zeros_len])
  have hlv := loadVar_arr PU.1 _ Try.underlying22 rfl (by rw [HX.out]; exact size4)
  have GF := hide (grown_own G2.out PU.2 (by omega))
  refine bodyPost_ret (v := .tuple #[.agg (arrI X), .int .i64 G, .int .i64 en]) ?_ rfl ⟨rfl, GF.out⟩
  simp [results, Try.results16, asAddr, Act.put, hlv]
end Go.Proofs.Ytdeappknlcmbbab
