/- The walk of PickBest out of contracts of package pitch that are handed in. -/
import Derived.Test.YtjjpbleknbmmgabDoorLOpn
import Derived.Test.YtjjpbleknbmmgabDoorPikMath
import Derived.Test.YtjjpbleknbmmgabDoorRegA
import Derived.BigQuiet
import Derived.Deep.QuietTactic
namespace Go.Proofs.YtjjpbleknbmmgabDoor
open Go.RowKit
set_option linter.unusedVariables false
set_option linter.unusedSimpArgs false
set_option maxHeartbeats 1000000

/-- A variable that is a list, in a block of its own. -/
def Bx (w : World) (b : Nat) (v : Value) : Prop := w.heap[b]? = some (.cells #[v] 23 (0, 0))
theorem Bx.lt {w : World} {b : Nat} {v : Value} (h : Bx w b v) : b < w.heap.size := lt_of_some h
theorem Bx.keep {w w' : World} {b : Nat} {v : Value} (h : Bx w b v) (g : w.grownBy w' none) : Bx w' b v := (g.block _ (lt_of_some h) (by simp)).trans h
theorem Bx.keepRow {w w' : World} {b r : Nat} {v : Value} (h : Bx w b v) (g : w.grownBy w' (some r)) (hr : b ≠ r) : Bx w' b v := (g.block _ (lt_of_some h) (by simpa using hr)).trans h
theorem Bx.cell {w : World} {b : Nat} {v : Value} (h : Bx w b v) : w.cell? ⟨b, 0, none⟩ = some v := (cell_of_heap h 0).trans rfl
theorem Bx.free {w : World} {b : Nat} {v : Value} (h : Bx w b v) : w.frozen? ⟨b, 0, none⟩ = false := frozen_of_heap h 0
theorem Bx.set {w : World} {b : Nat} {v : Value} (h : Bx w b v) (v' : Value) : Bx (w.setCell ⟨b, 0, none⟩ v') b v' ∧ w.grownBy (w.setCell ⟨b, 0, none⟩ v') (some b) :=
  ⟨by unfold Bx; rw [heap_setCell h v']; rfl, grown_setCell _ _ _⟩
def PbM (w wr : World) (h : List Int) (v : Value) : Prop := Blk wr w.heap.size 22 h ∧ Bx wr (w.heap.size + 1) v ∧ w.grownBy wr none
theorem PbM.keep {w wr wr' : World} {h : List Int} {v : Value} (m : PbM w wr h v) (g : wr.grownBy wr' none) : PbM w wr' h v := ⟨m.1.keep g, m.2.1.keep g, grown_none m.2.2 g⟩
def hisL (h : List Int) : List Int := tab 80 (fun i => spotN (nth h i) 65536 - 32768)
theorem hisL_len (h : List Int) : (hisL h).length = 80 := tab_len _ _
theorem hisL_right (h : List Int) : rightB (hisL h) = true := by
  rw [rightB_iff, hisL_len]
  intro i hi
  unfold hisL
  rw [tab_nth _ _ _ hi]
  unfold spotN
  omega
set_option maxRecDepth 100000 in
theorem history_any (h : List Int) (hh : h.length = 80) (w : World) : Calls Tryd.prog 6 #[.agg (arrI h)] w (AnsG w (.agg (arrI (hisL h)))) := by
  have L0 := hide (laid2 w 22 22 h (zeros 80))
  have hz := zero_arr (T := 22) (n := 80) (by kernel_rfl)
  have SS := hide (fun x w' => s16_any x w')
  go_enter Tryd.func6, Tryd.ntmps6
  go_wp2_with fail
  have M0 := hide (show Mem2 w _ 22 22 h (zeros 80) from L0.out)
  clear L0 hz
  generalize (w.alloc (.cells (arrI h) 22)).alloc _ = W0 at *
  go_loopw [4] (fun i wr => ∃ (m : Nat) (rs : List Int), i = .int .i64 m ∧ m ≤ 80 ∧ Hid (PartN 80 (fun x => spotN x 65536 - 32768) h m rs) ∧ Hid (Mem2 w wr 22 22 rs (zeros 80))) (fun i _ => 80 - (intOf i).toNat)
  case atStart => exact ⟨0, h, rfl, Nat.zero_le _, ⟨⟨hh, fun j hj => by omega⟩, fun j hj => rfl⟩, M0.out⟩
  case round =>
    obtain ⟨m, rs, rfl, hm, hF, hM⟩ := hrel
    clear M0
    by_cases hm80 : m < 80
    · have hlen : rs.length = 80 := hF.out.1.1
      have cd := hM.out.1.cell m (by omega)
      have fd := hM.out.1.free m
      rw [hF.out.2 m (Nat.le_refl _)] at cd
      have NF := hide (partN_step hF.out hm80)
      have NM := hide (hM.out.set m (spotN (nth h m) 65536 - 32768))
      have S1 := hide (SS.out (nth h m))
      clear hF hM SS
      generalize spotN (nth h m) 65536 - 32768 = z at *
      generalize nth h m = x at *
      have i1 : (m : Int) < 80 := by omega
      go_wp2_with fail
      refine (S1.out _).mono ?_
      rintro e w1 ⟨rfl, rfl⟩
      clear S1
      go_wp2_with fail
      go_roundw
      case rel => exact ⟨m + 1, _, by go_num, by omega, NF.out, NM.out⟩
      case measure => simp [intOf]; omega
    · obtain rfl : m = 80 := by omega
      have hlen : rs.length = 80 := hF.out.1.1
      have EL := hide (show hisL h = rs from (fillN_all hF.out.1).symm)
      have BA := hide hM.out.1
      have BB := hide hM.out.2.1
      have GM := hide hM.out.2.2
      clear hF hM SS
      go_wp2_with (first | refine wpList_load_arr rfl 22 _ rfl _ rfl _ BA.out _ Tryd.underlying22 rfl (by rw [hlen]; exact size80h) ?_ | refine wpList_store_arr rfl 22 _ _ rfl _ (zeros 80) rs rfl rfl BB.out (by rw [hlen, zeros_len]) (by rw [zeros_len]; exact size80h) ?_)
      have PU := put_arr (rs' := rs) BB.out (by rw [hlen, zeros_len])
      have hlv := loadVar_arr PU.1 _ Tryd.underlying22 rfl (by rw [hlen]; exact size80h)
      have GF := hide (grown_own GM.out PU.2 (by omega))
      refine bodyPost_ret (v := .agg (arrI rs)) ?_ rfl ?_
      · simp [results, Tryd.results6, asAddr, Act.put, hlv]
      · rw [EL.out]; exact ⟨rfl, GF.out⟩
theorem fold1_any (b : Nat) (vr : Value) (r : List Int) (v : Value) (l : List Int) (w : World) (hc : w.cell? ⟨b, 0, none⟩ = some vr) (hr : Ints w vr r) (hl : Ints w v l) (br : r.length ≤ 1000000000000000000) (bl : l.length ≤ 1000000000000000000) :
    Calls Tryd.prog 8 #[v, .pointer (some ⟨b, 0, none⟩)] w fun e w' => ∃ v', e = .returned v' ∧ Ints w' v' (foL r l) ∧ (foL r l).length ≤ 1000000000000000000 ∧ w.grownBy w' none := by
  have F := hide (fold_any vr v r l w hr hl br bl)
  have hb : (foL r l).length ≤ l.length := by
    unfold foL
    split
    · rw [tab_len]; exact Nat.le_refl _
    · simp
  obtain ⟨ad, c, rfl, _, _⟩ := hr
  generalize foL r l = L at *
  generalize foE r l = en at *
  clear hl
  go_enter Tryd.func8, Tryd.ntmps8
  go_wp2_with fail
  refine F.out.mono ?_
  rintro e w1 ⟨v1, rfl, o1, g1⟩
  have I := hide o1.ints
  have G := hide g1
  clear o1 g1 F hc
  go_wp2_with fail
  go_ret
  exact ⟨_, rfl, I.out, by omega, G.out⟩
theorem enters_pick (args : Array Value) (u : World) : (callFunc 8 args).run Tryd.prog u = .ok (.enter 8 args) u := by kernel_rfl
theorem fo_good (r l : List Int) (h1 : r.length = 40) (h2 : l.length = 40) (hr : rightB r = true) (hl : rightB l = true) : goodB (foL r l) = true := by
  have e : foL r l = tab l.length (foV r l) := by
    unfold foL
    exact if_pos ⟨by unfold sizeO; simp [h1, h2], by unfold okO; simp [hr, hl]⟩
  unfold goodB
  rw [e, tab_len, h2]
  simp only [decide_true, Bool.true_and]
  rw [rightB_iff, tab_len]
  intro i hi
  rw [tab_nth _ _ _ hi]
  exact c16_bd _
/-- What Pick answers, whatever function is handed in. -/
def PPick (f : Nat) (w : World) : Prop := ∀ (h t : List Int) (hh : h.length = 80) (n : Nat) (caps : Array Value) (F : List Int → List Int) (vt : Value) (wr : World), w.grownBy wr none → (∀ args u, (callFunc n args).run Tryd.prog u = .ok (.enter n args) u) → Folds wr n caps F → Ints wr vt t → t.length ≤ 1000000000000000000 →
    Calls Tryd.prog f #[.agg (arrI h), .func (.func n) #[] caps, vt] wr fun e w' => e = .returned (pickT h t F) ∧ wr.grownBy w' none
set_option maxRecDepth 100000 in
set_option maxHeartbeats 2000000 in
theorem law_pickBest (w : World) (pg : PGain 18 w) (pn : PNear 17 w) (pp : PPast 12 w) (pk : PPick 10 w) (h : List Int) (hh : h.length = 80) (h64 : In64 h) (v : Value) (r : List Int) (hi : Ints w v r) (hl : r.length * 8 ≤ 140737488351232) (hl64 : In64 r) (hsh : Shp v r) (u : Value) (t : List Int) (hj : Ints w u t) (hk' : t.length * 8 ≤ 140737488351232) (hk64 : In64 t) (hsu : Shp u t) (other : Int) :
    Calls Tryd.prog 3 #[.agg (arrI h), v, u, .int .i64 other] w fun e w' => e = .returned (.bool true) ∧ Below w.heap.size w w' := by
  have HE := hide (hears_any w pg pn)
  have PP := hide pp
  have PK := hide pk
  have S1 := hide (fun w' => spot_any other 60 (by omega) (by omega) w')
  have b1 : 0 ≤ spotN other 60 ∧ spotN other 60 < 60 := by unfold spotN; omega
  generalize spotN other 60 = s at *
  obtain ⟨b1, b2⟩ := b1
  obtain ⟨k, hk⟩ : ∃ k : Nat, 20 + s = (k : Int) := ⟨(20 + s).toNat, by omega⟩
  have k1 : 20 ≤ k := by omega
  have k2 : k ≤ 79 := by omega
  have HI := hide (history_any h hh)
  have LR := hide (fun wr (g : w.grownBy wr none) => lists_any v r wr (Ints_keep hi g) hl 40 (by omega))
  have LT := hide (fun wr (g : w.grownBy wr none) => lists_any u t wr (Ints_keep hj g) hk' 40 (by omega))
  rw [show ((40 : Nat) : Int) = 40 from rfl] at LR LT
  have hH := hisL_len h
  have RH := hide (hisL_right h)
  generalize hisL h = H at *
  obtain ⟨ad, c, rfl, hc, _⟩ := hi
  obtain ⟨ad', c', rfl, hc', _⟩ := hj
  generalize hv : Value.slice ad r.length c = v at *
  have M0 := hide (show PbM w ((w.alloc (.cells (arrI h) 22)).alloc (.cells #[v] 23)) h v from ⟨(Blk.new w 22 h).keep (grown_alloc _ _ none), by have := heap_new (w.alloc (.cells (arrI h) 22)) (.cells #[v] 23); unfold Bx; simpa using this, grown_none (grown_alloc _ _ none) (grown_alloc _ _ none)⟩)
  clear pg pn pp pk h64 hl64 hk64 hsh hsu
  subst hv
  go_enter Tryd.func3, Tryd.ntmps3
  go_wp2_with fail
  generalize (w.alloc (.cells (arrI h) 22)).alloc _ = W0 at *
  have HS := hide (PbM.keep M0.out (gw_start W0))
  clear M0
  generalize hv : Value.slice ad r.length c = v at *
  refine wp_region_G 6 (fun w' => PbM w w' h v) 9 (by rfl) #[false, false, false, false, false, false, false, false, false] (by rfl) (by kernel_rfl) (fun hcl => ?_)
  refine wpAnyG_take (i := 0) (v := .agg (arrI h)) rfl (by kernel_rfl) hcl (fun _ _ _ h => h) (Or.inl ⟨by rfl, ?ya0⟩) HS.out (fun hcl => ?ra0)
  case ya0 => (intro w' hSw; exact yields_load_arr rfl rfl hSw.1 _ Tryd.underlying22 rfl (by rw [hh]; exact size80h))
  (try simp only [Act.put, List.setIfInBounds_toArray, List.set_cons_zero, List.set_cons_succ, List.getElem_toArray, List.getElem_cons_zero, List.getElem_cons_succ])
  refine wpAnyG_take (i := 2) (v := v) rfl (by kernel_rfl) hcl (fun _ _ _ h => h) (Or.inl ⟨by rfl, ?ya2⟩) HS.out (fun hcl => ?ra2)
  case ya2 => (intro w' hSw; have cb := Bx.cell hSw.2.1; go_simp; try with_reducible rfl)
  (try simp only [Act.put, List.setIfInBounds_toArray, List.set_cons_zero, List.set_cons_succ, List.getElem_toArray, List.getElem_cons_zero, List.getElem_cons_succ])
  refine wpAnyG_take (i := 4) (v := ?va4) rfl (by kernel_rfl) hcl (fun _ _ _ h => h) (Or.inl ⟨by rfl, ?ya4⟩) HS.out (fun hcl => ?ra4)
  case ya4 => (intro w' hSw; go_simp; try with_reducible rfl)
  (try simp only [Act.put, List.setIfInBounds_toArray, List.set_cons_zero, List.set_cons_succ, List.getElem_toArray, List.getElem_cons_zero, List.getElem_cons_succ])
  refine wpAnyG_exec (i := 1) rfl (by kernel_rfl) hcl (fun K hK => ?_)
  (try simp only [Act.put, List.setIfInBounds_toArray, List.set_cons_zero, List.set_cons_succ, List.getElem_toArray, List.getElem_cons_zero, List.getElem_cons_succ])
  go_simp
  refine (HI.out _).mono ?_
  rintro e w1 ⟨rfl, g1⟩
  have HS := hide (PbM.keep HS.out g1)
  clear g1
  go_wp2_with fail
  refine hK.out _ _ (fun _ => HS.out) (fun hcl => ?_)
  clear hK
  (try simp only [Act.put, List.setIfInBounds_toArray, List.set_cons_zero, List.set_cons_succ, List.getElem_toArray, List.getElem_cons_zero, List.getElem_cons_succ])
  refine wpAnyG_exec (i := 3) rfl (by kernel_rfl) hcl (fun K hK => ?_)
  (try simp only [Act.put, List.setIfInBounds_toArray, List.set_cons_zero, List.set_cons_succ, List.getElem_toArray, List.getElem_cons_zero, List.getElem_cons_succ])
  go_simp
  refine (LR.out _ HS.out.2.2).mono ?_
  rintro e w2 ⟨b1, R, rfl, hR, lR, rR, hb1, g2⟩
  have BR := hide hR
  have RR := hide (right_of_all rR)
  have N1 := hide (Nat.lt_of_lt_of_le (Bx.lt HS.out.2.1) hb1)
  clear hR rR hb1
  have HS := hide (PbM.keep HS.out g2)
  clear g2
  go_wp2_with fail
  refine hK.out _ _ (fun _ => HS.out) (fun hcl => ?_)
  clear hK
  (try simp only [Act.put, List.setIfInBounds_toArray, List.set_cons_zero, List.set_cons_succ, List.getElem_toArray, List.getElem_cons_zero, List.getElem_cons_succ])
  refine wpAnyG_exec (i := 5) rfl (by kernel_rfl) hcl (fun K hK => ?_)
  (try simp only [Act.put, List.setIfInBounds_toArray, List.set_cons_zero, List.set_cons_succ, List.getElem_toArray, List.getElem_cons_zero, List.getElem_cons_succ])
  go_simp
  refine (LT.out _ HS.out.2.2).mono ?_
  rintro e w3 ⟨b2, T, rfl, hT, lT, rT, hb2, g3⟩
  have BT := hide hT
  have RT := hide (right_of_all rT)
  have N2 := hide (Nat.lt_of_lt_of_le (Bx.lt HS.out.2.1) hb2)
  have BR := hide (BR.out.keep g3)
  clear hT rT hb2
  have HS := hide (PbM.keep HS.out g3)
  clear g3
  go_wp2_with fail
  refine hK.out _ _ (fun _ => HS.out) (fun hcl => ?_)
  clear hK
  (try simp only [Act.put, List.setIfInBounds_toArray, List.set_cons_zero, List.set_cons_succ, List.getElem_toArray, List.getElem_cons_zero, List.getElem_cons_succ])
  refine wpAnyG_exec (i := 6) rfl (by kernel_rfl) hcl (fun K hK => ?_)
  (try simp only [Act.put, List.setIfInBounds_toArray, List.set_cons_zero, List.set_cons_succ, List.getElem_toArray, List.getElem_cons_zero, List.getElem_cons_succ])
  refine step_store_arr rfl 22 _ _ rfl (w.heap.size) h H rfl rfl HS.out.1 (by rw [hH, hh]) (by rw [hh]; exact size80h) ?_
  have PU := put_arr (rs' := H) HS.out.1 (by rw [hH, hh])
  have HS := hide (show PbM w _ H v from ⟨PU.1, Bx.keepRow HS.out.2.1 PU.2 (by simp), grown_own HS.out.2.2 PU.2 (Nat.le_refl _)⟩)
  have BR := hide (BR.out.keepBut PU.2 (by have := N1.out; omega))
  have BT := hide (BT.out.keepBut PU.2 (by have := N2.out; omega))
  refine hK.out _ _ (fun h => by cases h) (fun hcl => ?_)
  clear hK PU
  (try simp only [Act.put, List.setIfInBounds_toArray, List.set_cons_zero, List.set_cons_succ, List.getElem_toArray, List.getElem_cons_zero, List.getElem_cons_succ])
  generalize putArr w3 w.heap.size H = w4 at *
  refine wpAnyG_of_any _ _ _ _ (by rfl) ?_
  refine wpAny_ready (rs := [7]) (by kernel_rfl) (by simp) (AllReady.cons rfl (fun K hK => ?_) AllReady.nil)
  (try simp only [Act.put, List.setIfInBounds_toArray, List.set_cons_zero, List.set_cons_succ, List.getElem_toArray, List.getElem_cons_zero, List.getElem_cons_succ])
  have HK := hide hK
  clear hK
  have cb := Bx.cell HS.out.2.1
  have fb := Bx.free HS.out.2.1
  go_simp
  go_wp2_with fail
  have PS := Bx.set HS.out.2.1 (.slice (some ⟨b1, 0, none⟩) 40 40)
  have HS := hide (show PbM w _ H (.slice (some ⟨b1, 0, none⟩) 40 40) from ⟨HS.out.1.keepBut PS.2 (by omega), PS.1, grown_own HS.out.2.2 PS.2 (by omega)⟩)
  have BR := hide (BR.out.keepBut PS.2 (by have := N1.out; omega))
  have BT := hide (BT.out.keepBut PS.2 (by have := N2.out; omega))
  refine HK.out _ _ ?_
  clear HK PS cb fb
  (try simp only [Act.put, List.setIfInBounds_toArray, List.set_cons_zero, List.set_cons_succ, List.getElem_toArray, List.getElem_cons_zero, List.getElem_cons_succ])
  generalize w4.setCell _ _ = w5 at *
  refine wpAny_take (i := 8) (v := ?va8) rfl (by kernel_rfl) (by kernel_rfl) (by kernel_rfl) (fun _ _ _ h => h) (Or.inl ⟨by rfl, ?ya8⟩) ?ra8
  case ya8 => (intro w'; go_simp; try with_reducible rfl)
  (try simp only [Act.put, List.setIfInBounds_toArray, List.set_cons_zero, List.set_cons_succ, List.getElem_toArray, List.getElem_cons_zero, List.getElem_cons_succ])
  refine wpAny_done (by kernel_rfl) ?_ _
  clear HI LR LT N1 N2
  have BH := hide HS.out.1
  have G5 := hide HS.out.2.2
  have IT := hide (show Ints w5 (.slice (some ⟨b2, 0, none⟩) 40 40) T from by have := Ints_of_blk BT.out; rw [lT] at this; exact this)
  have IR := hide (show Ints w5 (.slice (some ⟨b1, 0, none⟩) 40 40) R from by have := Ints_of_blk BR.out; rw [lR] at this; exact this)
  have ST := hide (show Shp (.slice (some ⟨b2, 0, none⟩) 40 40) T from .inr ⟨_, _, by rw [lT]⟩)
  have CB := hide HS.out.2.1.cell
  have F1 := hide (fun wr vx l (g : w5.grownBy wr none) (il : Ints wr vx l) (ll : l.length = 40) => fold1_any (w.heap.size + 1) (.slice (some ⟨b1, 0, none⟩) 40 40) R vx l wr (grown_keep g CB.out) (Ints_keep IR.out g) il (by omega) (by omega))
  have HP := hide (fun wr vi (g : w5.grownBy wr none) (it : Ints wr vi T) => PK.out H T hH 8 #[.pointer (some ⟨w.heap.size + 1, 0, none⟩)] (foL R) vi wr (grown_none G5.out g) enters_pick (fun wx vx l gx il sl ll rl => F1.out wx vx l (grown_none g gx) il ll) it (by omega))
  have GO := fun k' => fo_good R (pasV H k') lR (pasV_len H k') RR.out (pasV_right H k' RH.out)
  have hp : pickT H T (foL R) = pickV (pkN (pkC T (foL R) H) (pkE (foL R) H) 60) := by
    unfold pickT
    rw [if_pos lT, if_pos (by rw [RT.out, RH.out]; rfl), if_pos (allGood_yes _ _ (fun j _ => GO _))]
  rw [hp] at HP
  have KL := pkN_lag (pkC T (foL R) H) (pkE (foL R) H) 60
  obtain ⟨d1, d2, d3, d4⟩ := pkN_bd (pkC T (foL R) H) (pkE (foL R) H) 42949672960 (by omega) (pkC_le T (foL R) H) (pkE_le (foL R) H) 60
  have BE := pkN_best (pkC T (foL R) H) (pkE (foL R) H) 60 (k - 20) (by omega)
  rw [show 20 + (k - 20) = k by omega] at BE
  have OW := pkN_own (pkC T (foL R) H) (pkE (foL R) H) 60
  have eC : ∀ k', pkC T (foL R) H k' = dotS T (foL R (pasV H k')) 40 := fun k' => by unfold pkC; rw [RT.out, GO k']; rfl
  have eE : ∀ k', pkE (foL R) H k' = dotS (foL R (pasV H k')) (foL R (pasV H k')) 40 := fun k' => by unfold pkE; rw [GO k']; rfl
  unfold pickV at HP
  generalize pkN (pkC T (foL R) H) (pkE (foL R) H) 60 = P at *
  obtain ⟨Kg, c0, e0⟩ := P
  simp only at KL d1 d2 d3 d4 BE OW HP
  have q1 : 20 ≤ Kg := KL.1
  have q2 : Kg ≤ 79 := by omega
  have q3 : ¬ (Kg : Int) < 20 := by omega
  have q4 : ¬ (79 : Int) < Kg := by omega
  have q5 : ¬ c0 < 0 := by omega
  have q6 : ¬ e0 < 0 := by omega
  have l1 := pkC_le T (foL R) H k
  have l2 := pkE_le (foL R) H k
  rw [eC] at l1
  rw [eE] at l2
  rw [eC, eE] at BE OW
  have PA := hide (fun wr (g : w5.grownBy wr none) => PP.out H hH (k : Int) wr (grown_none G5.out g) (by omega) (by omega))
  rw [(pasL_yes H k k1 k2).1, (pasL_yes H k k1 k2).2] at PA
  have PB := hide (fun wr (g : w5.grownBy wr none) => PP.out H hH (Kg : Int) wr (grown_none G5.out g) (by omega) (by omega))
  rw [(pasL_yes H Kg q1 q2).1, (pasL_yes H Kg q1 q2).2] at PB
  have DT := hide (fun k' wr vx (g : w5.grownBy wr none) (il : Ints wr vx (foL R (pasV H k'))) => kdot_any (.slice (some ⟨b2, 0, none⟩) 40 40) vx T (foL R (pasV H k')) wr (Ints_keep IT.out g) il (by omega) (by rw [(good_right (GO k')).1]; omega) RT.out (good_right (GO k')).2)
  have DS := hide (fun k' wr vx (il : Ints wr vx (foL R (pasV H k'))) => kdot_any vx vx (foL R (pasV H k')) (foL R (pasV H k')) wr il il (by rw [(good_right (GO k')).1]; omega) (Nat.le_refl _) (good_right (GO k')).2 (good_right (GO k')).2)
  have FK := hide (fun k' => (good_right (GO k')).1)
  have VK := hide (pasV_len H)
  rw [lT] at DT
  have HB := hide BE
  have HO := hide OW
  clear HS BR BT PK PP GO hp KL BE OW eC eE RR RT RH CB IR lR
  go_upto_region 3 with fail
  refine wp_region_held_drew (S := GrownW w5) (by kernel_rfl) (gw_start _) (fun hHeld => ?_)
  refine wpAnyH_take (i := 0) (v := .agg (arrI H)) rfl (by kernel_rfl) (by kernel_rfl) (by kernel_rfl) (fun _ _ _ h => h) (Or.inl ⟨by rfl, ?ypa1⟩) hHeld ?rpa1
  case ypa1 => (intro w' hSw; exact yields_load_arr rfl rfl (BH.out.keep hSw) _ Tryd.underlying22 rfl (by rw [hH]; exact size80h))
  (try simp only [Act.put, List.setIfInBounds_toArray, List.set_cons_zero, List.set_cons_succ, List.getElem_toArray, List.getElem_cons_zero, List.getElem_cons_succ])
  refine wpAnyH_take (i := 1) (v := ?vpa2) rfl (by kernel_rfl) (by kernel_rfl) (by kernel_rfl) (fun _ _ _ h => h) (Or.inl ⟨by rfl, ?ypa2⟩) hHeld ?rpa2
  case ypa2 => (intro w' hSw; go_simp; (try with_reducible rfl))
  (try simp only [Act.put, List.setIfInBounds_toArray, List.set_cons_zero, List.set_cons_succ, List.getElem_toArray, List.getElem_cons_zero, List.getElem_cons_succ])
  refine wpAnyH_take (i := 2) (v := ?vpa3) rfl (by kernel_rfl) (by kernel_rfl) (by kernel_rfl) (fun _ _ _ h => h) (Or.inl ⟨by rfl, ?ypa3⟩) hHeld ?rpa3
  case ypa3 => (intro w' hSw; go_simp; (try with_reducible rfl))
  (try simp only [Act.put, List.setIfInBounds_toArray, List.set_cons_zero, List.set_cons_succ, List.getElem_toArray, List.getElem_cons_zero, List.getElem_cons_succ])
  refine wpAnyH_ready (rs := [3]) (by kernel_rfl) (by simp) (AllReadyH.cons rfl (fun K hK => ?_) AllReadyH.nil)
  (try simp only [Act.put, List.setIfInBounds_toArray, List.set_cons_zero, List.set_cons_succ, List.getElem_toArray, List.getElem_cons_zero, List.getElem_cons_succ])
  refine step_ints rfl _ _ rfl rfl (.slice (some ⟨b2, 0, none⟩) 40 40) T rfl (Ints_keep IT.out hHeld) ST.out (by omega) ?_
  intro vi wpa4 oi gpa4
  have Gpa4 := hide gpa4
  have OI := hide (oi)
  clear gpa4 oi
  refine hK.out _ _ (gw_trans hHeld Gpa4.out) (fun hHeld => ?_)
  clear hK
  (try simp only [Act.put, List.setIfInBounds_toArray, List.set_cons_zero, List.set_cons_succ, List.getElem_toArray, List.getElem_cons_zero, List.getElem_cons_succ])
  refine wpAnyH_ready (rs := [4]) (by kernel_rfl) (by simp) (AllReadyH.cons rfl (fun K hK => ?_) AllReadyH.nil)
  (try simp only [Act.put, List.setIfInBounds_toArray, List.set_cons_zero, List.set_cons_succ, List.getElem_toArray, List.getElem_cons_zero, List.getElem_cons_succ])
  go_simp
  refine (HP.out _ _ hHeld OI.out.ints).mono ?_
  rintro e wpa5 ⟨rfl, gpa5⟩
  have Gpa5 := hide gpa5
  clear gpa5
  go_wp2_with fail
  refine hK.out _ _ (gw_trans hHeld Gpa5.out) (fun hHeld => ?_)
  clear hK
  have OI := hide (OI.out.keep Gpa5.out)
  (try simp only [Act.put, List.setIfInBounds_toArray, List.set_cons_zero, List.set_cons_succ, List.getElem_toArray, List.getElem_cons_zero, List.getElem_cons_succ])
  refine wpAnyH_take (i := 5) (v := ?vpa6) rfl (by kernel_rfl) (by kernel_rfl) (by kernel_rfl) (fun _ _ _ h => h) (Or.inl ⟨by rfl, ?ypa6⟩) hHeld ?rpa6
  case ypa6 => (intro w' hSw; go_simp; (try with_reducible rfl))
  (try simp only [Act.put, List.setIfInBounds_toArray, List.set_cons_zero, List.set_cons_succ, List.getElem_toArray, List.getElem_cons_zero, List.getElem_cons_succ])
  refine wpAnyH_take (i := 6) (v := ?vpa7) rfl (by kernel_rfl) (by kernel_rfl) (by kernel_rfl) (fun _ _ _ h => h) (Or.inl ⟨by rfl, ?ypa7⟩) hHeld ?rpa7
  case ypa7 => (intro w' hSw; go_simp; (try with_reducible rfl))
  (try simp only [Act.put, List.setIfInBounds_toArray, List.set_cons_zero, List.set_cons_succ, List.getElem_toArray, List.getElem_cons_zero, List.getElem_cons_succ])
  refine wpAnyH_take (i := 7) (v := ?vpa8) rfl (by kernel_rfl) (by kernel_rfl) (by kernel_rfl) (fun _ _ _ h => h) (Or.inl ⟨by rfl, ?ypa8⟩) hHeld ?rpa8
  case ypa8 => (intro w' hSw; go_simp; (try with_reducible rfl))
  (try simp only [Act.put, List.setIfInBounds_toArray, List.set_cons_zero, List.set_cons_succ, List.getElem_toArray, List.getElem_cons_zero, List.getElem_cons_succ])
  refine wpAnyH_take (i := 8) (v := ?vpa9) rfl (by kernel_rfl) (by kernel_rfl) (by kernel_rfl) (fun _ _ _ h => h) (Or.inl ⟨by rfl, ?ypa9⟩) hHeld ?rpa9
  case ypa9 => (intro w' hSw; go_simp; (try with_reducible rfl))
  (try simp only [Act.put, List.setIfInBounds_toArray, List.set_cons_zero, List.set_cons_succ, List.getElem_toArray, List.getElem_cons_zero, List.getElem_cons_succ])
  refine wpAnyH_take (i := 9) (v := ?vpa10) rfl (by kernel_rfl) (by kernel_rfl) (by kernel_rfl) (fun _ _ _ h => h) (Or.inl ⟨by rfl, ?ypa10⟩) hHeld ?rpa10
  case ypa10 => (intro w' hSw; go_simp; (try with_reducible rfl))
  (try simp only [Act.put, List.setIfInBounds_toArray, List.set_cons_zero, List.set_cons_succ, List.getElem_toArray, List.getElem_cons_zero, List.getElem_cons_succ])
  refine wpAnyH_take (i := 10) (v := ?vpa11) rfl (by kernel_rfl) (by kernel_rfl) (by kernel_rfl) (fun _ _ _ h => h) (Or.inl ⟨by rfl, ?ypa11⟩) hHeld ?rpa11
  case ypa11 => (intro w' hSw; go_simp; (try with_reducible rfl))
  (try simp only [Act.put, List.setIfInBounds_toArray, List.set_cons_zero, List.set_cons_succ, List.getElem_toArray, List.getElem_cons_zero, List.getElem_cons_succ])
  refine wpAnyH_take (i := 11) (v := ?vpa12) rfl (by kernel_rfl) (by kernel_rfl) (by kernel_rfl) (fun _ _ _ h => h) (Or.inl ⟨by rfl, ?ypa12⟩) hHeld ?rpa12
  case ypa12 => (intro w' hSw; go_simp; (try with_reducible rfl))
  (try simp only [Act.put, List.setIfInBounds_toArray, List.set_cons_zero, List.set_cons_succ, List.getElem_toArray, List.getElem_cons_zero, List.getElem_cons_succ])
  refine wpAnyH_take (i := 12) (v := ?vpa13) rfl (by kernel_rfl) (by kernel_rfl) (by kernel_rfl) (fun _ _ _ h => h) (Or.inl ⟨by rfl, ?ypa13⟩) hHeld ?rpa13
  case ypa13 => (intro w' hSw; go_simp; (try with_reducible rfl))
  (try simp only [Act.put, List.setIfInBounds_toArray, List.set_cons_zero, List.set_cons_succ, List.getElem_toArray, List.getElem_cons_zero, List.getElem_cons_succ])
  refine wpAnyH_take (i := 13) (v := ?vpa14) rfl (by kernel_rfl) (by kernel_rfl) (by kernel_rfl) (fun _ _ _ h => h) (Or.inl ⟨by rfl, ?ypa14⟩) hHeld ?rpa14
  case ypa14 => (intro w' hSw; go_simp; (try with_reducible rfl))
  (try simp only [Act.put, List.setIfInBounds_toArray, List.set_cons_zero, List.set_cons_succ, List.getElem_toArray, List.getElem_cons_zero, List.getElem_cons_succ])
  refine wpAnyH_done (by kernel_rfl) ?_ _
  go_wp2_with fail
  have G3 := hide (show w5.grownBy _ none from hHeld)
  clear hHeld OI HP
  refine (HE.out _ (grown_none G5.out G3.out)).mono ?_
  rintro e W6 ⟨rfl, g6⟩
  have G6 := hide (grown_none G3.out g6)
  clear g6 HE G3
  go_upto_region 6 with fail
  have BH2 := hide (BH.out.keep G6.out)
  have PA := hide (fun wr (g : W6.grownBy wr none) => PA.out wr (grown_none G6.out g))
  refine wp_region_held_drew (S := GrownW W6) (by kernel_rfl) (gw_start _) (fun hHeld => ?_)
  refine wpAnyH_take (i := 0) (v := .agg (arrI H)) rfl (by kernel_rfl) (by kernel_rfl) (by kernel_rfl) (fun _ _ _ h => h) (Or.inl ⟨by rfl, ?ypb1⟩) hHeld ?rpb1
  case ypb1 => (intro w' hSw; exact yields_load_arr rfl rfl (BH2.out.keep hSw) _ Tryd.underlying22 rfl (by rw [hH]; exact size80h))
  (try simp only [Act.put, List.setIfInBounds_toArray, List.set_cons_zero, List.set_cons_succ, List.getElem_toArray, List.getElem_cons_zero, List.getElem_cons_succ])
  refine wpAnyH_take (i := 1) (v := ?vpb2) rfl (by kernel_rfl) (by kernel_rfl) (by kernel_rfl) (fun _ _ _ h => h) (Or.inl ⟨by rfl, ?ypb2⟩) hHeld ?rpb2
  case ypb2 => (intro w' hSw; go_simp; (try with_reducible rfl))
  (try simp only [Act.put, List.setIfInBounds_toArray, List.set_cons_zero, List.set_cons_succ, List.getElem_toArray, List.getElem_cons_zero, List.getElem_cons_succ])
  refine wpAnyH_ready (rs := [2]) (by kernel_rfl) (by simp) (AllReadyH.cons rfl (fun K hK => ?_) AllReadyH.nil)
  (try simp only [Act.put, List.setIfInBounds_toArray, List.set_cons_zero, List.set_cons_succ, List.getElem_toArray, List.getElem_cons_zero, List.getElem_cons_succ])
  go_simp
  refine (S1.out _).mono ?_
  rintro e wpb3 ⟨rfl, rfl⟩
  go_wp2_with fail
  refine hK.out _ _ hHeld (fun hHeld => ?_)
  clear hK
  (try simp only [Act.put, List.setIfInBounds_toArray, List.set_cons_zero, List.set_cons_succ, List.getElem_toArray, List.getElem_cons_zero, List.getElem_cons_succ])
  refine wpAnyH_take (i := 3) (v := .int .i64 (k : Int)) rfl (by kernel_rfl) (by kernel_rfl) (by kernel_rfl) (fun _ _ _ h => h) (Or.inl ⟨by rfl, ?ypb4⟩) hHeld ?rpb4
  case ypb4 => (intro w' hSw; go_simp; (try (first | with_reducible rfl | exact wrapI _ (by omega) (by omega) | (rw [hk]; exact wrapI _ (by omega) (by omega)) | (rw [wrapI _ (by omega) (by omega)]; exact hk) | exact hk | omega)))
  (try simp only [Act.put, List.setIfInBounds_toArray, List.set_cons_zero, List.set_cons_succ, List.getElem_toArray, List.getElem_cons_zero, List.getElem_cons_succ])
  refine wpAnyH_ready (rs := [4]) (by kernel_rfl) (by simp) (AllReadyH.cons rfl (fun K hK => ?_) AllReadyH.nil)
  (try simp only [Act.put, List.setIfInBounds_toArray, List.set_cons_zero, List.set_cons_succ, List.getElem_toArray, List.getElem_cons_zero, List.getElem_cons_succ])
  go_simp
  refine (PA.out _ hHeld).mono ?_
  rintro e wpb5 ⟨vp, rfl, op, gpb5⟩
  have Gpb5 := hide gpb5
  have OP := hide (op.base (b' := 0) (Nat.zero_le _))
  clear gpb5 op
  go_wp2_with fail
  refine hK.out _ _ (gw_trans hHeld Gpb5.out) (fun hHeld => ?_)
  clear hK
  (try simp only [Act.put, List.setIfInBounds_toArray, List.set_cons_zero, List.set_cons_succ, List.getElem_toArray, List.getElem_cons_zero, List.getElem_cons_succ])
  refine wpAnyH_take (i := 5) (v := ?vpb6) rfl (by kernel_rfl) (by kernel_rfl) (by kernel_rfl) (fun _ _ _ h => h) (Or.inl ⟨by rfl, ?ypb6⟩) hHeld ?rpb6
  case ypb6 => (intro w' hSw; go_simp; (try with_reducible rfl))
  (try simp only [Act.put, List.setIfInBounds_toArray, List.set_cons_zero, List.set_cons_succ, List.getElem_toArray, List.getElem_cons_zero, List.getElem_cons_succ])
  refine wpAnyH_take (i := 6) (v := ?vpb7) rfl (by kernel_rfl) (by kernel_rfl) (by kernel_rfl) (fun _ _ _ h => h) (Or.inl ⟨by rfl, ?ypb7⟩) hHeld ?rpb7
  case ypb7 => (intro w' hSw; go_simp; (try with_reducible rfl))
  (try simp only [Act.put, List.setIfInBounds_toArray, List.set_cons_zero, List.set_cons_succ, List.getElem_toArray, List.getElem_cons_zero, List.getElem_cons_succ])
  refine wpAnyH_take (i := 7) (v := ?vpb8) rfl (by kernel_rfl) (by kernel_rfl) (by kernel_rfl) (fun _ _ _ h => h) (Or.inl ⟨by rfl, ?ypb8⟩) hHeld ?rpb8
  case ypb8 => (intro w' hSw; go_simp; (try with_reducible rfl))
  (try simp only [Act.put, List.setIfInBounds_toArray, List.set_cons_zero, List.set_cons_succ, List.getElem_toArray, List.getElem_cons_zero, List.getElem_cons_succ])
  refine wpAnyH_take (i := 8) (v := ?vpb9) rfl (by kernel_rfl) (by kernel_rfl) (by kernel_rfl) (fun _ _ _ h => h) (Or.inl ⟨by rfl, ?ypb9⟩) hHeld ?rpb9
  case ypb9 => (intro w' hSw; go_simp; (try with_reducible rfl))
  (try simp only [Act.put, List.setIfInBounds_toArray, List.set_cons_zero, List.set_cons_succ, List.getElem_toArray, List.getElem_cons_zero, List.getElem_cons_succ])
  refine wpAnyH_take (i := 9) (v := ?vpb10) rfl (by kernel_rfl) (by kernel_rfl) (by kernel_rfl) (fun _ _ _ h => h) (Or.inl ⟨by rfl, ?ypb10⟩) hHeld ?rpb10
  case ypb10 => (intro w' hSw; go_simp; (try with_reducible rfl))
  (try simp only [Act.put, List.setIfInBounds_toArray, List.set_cons_zero, List.set_cons_succ, List.getElem_toArray, List.getElem_cons_zero, List.getElem_cons_succ])
  refine wpAnyH_done (by kernel_rfl) ?_ _
  go_wp2_with fail
  have G7 := hide (grown_none G6.out hHeld)
  clear hHeld PA S1 G6 BH2
  have D1 := hide (DT.out k)
  have D2 := hide (DS.out k)
  have D3 := hide (DT.out Kg)
  have D4 := hide (DS.out Kg)
  have f1 := FK.out k
  have f2 := FK.out Kg
  have C1 := hide (fun wr vx (g : w5.grownBy wr none) (il : Ints wr vx (pasV H k)) => F1.out wr vx _ g il (VK.out k))
  have C2 := hide (fun wr vx (g : w5.grownBy wr none) (il : Ints wr vx (pasV H Kg)) => F1.out wr vx _ g il (VK.out Kg))
  rw [f1] at D2
  rw [f2] at D4
  have VL := VK.out Kg
  generalize foL R (pasV H k) = X at *
  generalize foL R (pasV H Kg) = Y at *
  have y1 : dotS T X 40 ≤ 42949672960 := l1
  have y2 : dotS X X 40 ≤ 42949672960 := l2
  generalize dotS T X 40 = p at *
  generalize dotS X X 40 = q at *
  have BT := hide (betterG_any p q c0 e0 (by omega) (by omega) (by omega) (by omega))
  clear DT DS FK VK F1 l1 l2
  refine (C1.out _ _ G7.out OP.out.ints).mono ?_
  rintro e w8 ⟨v8, rfl, i8, _, g8⟩
  have I8 := hide i8
  have G8 := hide (grown_none G7.out g8)
  clear i8 g8 C1 G7 OP
  obtain ⟨ad8, cap8, e8, hc8, _⟩ := I8.out
  rw [f1] at e8
  subst e8
  clear f1
  go_wp2_with fail
  refine (D1.out _ _ G8.out I8.out).mono ?_
  rintro e w9 ⟨rfl, g9⟩
  have I9 := hide (Ints_keep I8.out g9)
  have G9 := hide (grown_none G8.out g9)
  clear g9 D1 I8 G8
  go_wp2_with fail
  refine (D2.out _ _ I9.out).mono ?_
  rintro e wa ⟨rfl, ga⟩
  have GA := hide (grown_none G9.out ga)
  clear ga D2 I9 G9
  have FIN := hide (show ∀ wr, w5.grownBy wr none → w.grownBy wr none from fun wr g => grown_none G5.out g)
  by_cases hpp : 0 < p
  · have hbt := HB.out hpp
    rw [hbt] at BT
    clear hbt HB
    go_wp2_with fail
    refine (BT.out _).mono ?_
    rintro e wb ⟨rfl, gb⟩
    have GA := hide (grown_none GA.out gb)
    clear gb BT
    have BH := hide (BH.out.keep GA.out)
    go_wp2_with (first | refine wpList_load_arr rfl 22 _ rfl _ rfl _ BH.out _ Tryd.underlying22 rfl (by rw [hH]; exact size80h) ?_)
    refine (PB.out _ GA.out).mono ?_
    rintro e wc ⟨vc, rfl, oc, gc⟩
    have IC := hide oc.ints
    have GC := hide (grown_none GA.out gc)
    clear oc gc PB GA BH
    go_wp2_with fail
    refine (C2.out _ _ GC.out IC.out).mono ?_
    rintro e wd ⟨vd, rfl, id, _, gd⟩
    have ID := hide id
    have GD := hide (grown_none GC.out gd)
    clear id gd C2 GC IC
    obtain ⟨add, capd, ed, hcd, _⟩ := ID.out
    rw [f2] at ed
    subst ed
    clear f2
    rcases HO.out with ⟨z1, z2⟩ | ⟨z1, z2, z3, z4⟩
    · rw [z1, z2]
      clear HO D3 D4
      go_wp2_with fail
      go_ret
      exact ⟨rfl, below_of_grown (FIN.out _ GD.out)⟩
    · rw [← z1] at D3
      rw [← z2] at D4
      have hne : (e0 == 0) = false := by simp; omega
      clear HO z1 z2
      go_wp2_with fail
      refine (D3.out _ _ GD.out ID.out).mono ?_
      rintro e we ⟨rfl, ge⟩
      have IE := hide (Ints_keep ID.out ge)
      have GE := hide (grown_none GD.out ge)
      clear ge D3 ID GD
      go_wp2_with fail
      refine (D4.out _ _ IE.out).mono ?_
      rintro e wf ⟨rfl, gf⟩
      have GF := hide (grown_none GE.out gf)
      clear gf D4 IE GE
      go_wp2_with fail
      go_ret
      exact ⟨rfl, below_of_grown (FIN.out _ GF.out)⟩
  · clear HB BT
    have BH := hide (BH.out.keep GA.out)
    go_wp2_with (first | refine wpList_load_arr rfl 22 _ rfl _ rfl _ BH.out _ Tryd.underlying22 rfl (by rw [hH]; exact size80h) ?_)
    refine (PB.out _ GA.out).mono ?_
    rintro e wc ⟨vc, rfl, oc, gc⟩
    have IC := hide oc.ints
    have GC := hide (grown_none GA.out gc)
    clear oc gc PB GA BH
    go_wp2_with fail
    refine (C2.out _ _ GC.out IC.out).mono ?_
    rintro e wd ⟨vd, rfl, id, _, gd⟩
    have ID := hide id
    have GD := hide (grown_none GC.out gd)
    clear id gd C2 GC IC
    obtain ⟨add, capd, ed, hcd, _⟩ := ID.out
    rw [f2] at ed
    subst ed
    clear f2
    rcases HO.out with ⟨z1, z2⟩ | ⟨z1, z2, z3, z4⟩
    · rw [z1, z2]
      clear HO D3 D4
      go_wp2_with fail
      go_ret
      exact ⟨rfl, below_of_grown (FIN.out _ GD.out)⟩
    · rw [← z1] at D3
      rw [← z2] at D4
      have hne : (e0 == 0) = false := by simp; omega
      clear HO z1 z2
      go_wp2_with fail
      refine (D3.out _ _ GD.out ID.out).mono ?_
      rintro e we ⟨rfl, ge⟩
      have IE := hide (Ints_keep ID.out ge)
      have GE := hide (grown_none GD.out ge)
      clear ge D3 ID GD
      go_wp2_with fail
      refine (D4.out _ _ IE.out).mono ?_
      rintro e wf ⟨rfl, gf⟩
      have GF := hide (grown_none GE.out gf)
      clear gf D4 IE GE
      go_wp2_with fail
      go_ret
      exact ⟨rfl, below_of_grown (FIN.out _ GF.out)⟩
end Go.Proofs.YtjjpbleknbmmgabDoor
