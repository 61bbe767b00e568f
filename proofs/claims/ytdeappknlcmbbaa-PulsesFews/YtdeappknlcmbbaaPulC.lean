/- The contract of package pulses' scored. -/
import Derived.Test.YtdeappknlcmbbaaPulB
namespace Go.Proofs.Ytdeappknlcmbbaa
open Go.RowKit
set_option linter.unusedVariables false
set_option linter.unusedSimpArgs false
set_option maxHeartbeats 1000000

theorem wpList_build1 {ops : Array Oper} {rest : List Oper} {op : Oper} {a : Act} {w : World} {Q : Exit → Act → World → Prop} (hgd : op.guard = none) (T : TypeId) (i : Nat) (y : Operand) (ho : op.op = .build T #[(i, y)]) (v0 v : Value) (hy : a.eval y = v0)
    (hrun : Sem.run Try.prog (Instr.build T #[(i, v0)]) w = .ok v w) (k : wpList Try.prog ops Q rest (a.put op.dst v) w) : wpList Try.prog ops Q (op :: rest) a w := by
  refine wpList_plain hgd fun _ hK => ?_
  unfold Oper.wp execOp
  have e : (#[(i, y)] : Array (Nat × Operand)).map (fun (i, x) => (i, a.eval x)) = #[(i, v0)] := by simp [hy]
  simp only [ho, e, Sem.run_bind, hrun, Result.andThen_ok, Sem.run_pure]
  exact hK _ _ k
theorem zCho : (Try.prog.info? 52).bind (·.zero) = some (.agg (arrI (zeros 6))) := by kernel_rfl
theorem sCho : (Try.prog.info? 52).map (·.size) = some 6 := by kernel_rfl
theorem list4 (x : List Int) (hx : x.length = 4) : ∃ a b c d, x = [a, b, c, d] := by
  match x, hx with
  | [a, b, c, d], _ => exact ⟨a, b, c, d, rfl⟩
theorem builtCho (x : List Int) (hx : x.length = 4) (u : World) : Sem.run Try.prog (Instr.build 52 #[(0, .agg (arrI x))]) u = .ok (.agg (arrI (x ++ [0, 0]))) u := by
  obtain ⟨a, b, c, d, rfl⟩ := list4 x hx
  exact run_build u 52 _ _ (by kernel_rfl)
theorem cho_c (x : List Int) (hx : x.length = 4) (c e z : Int) : (x ++ [c, e]).set 4 z = x ++ [z, e] ∧ (x ++ [c, e]).set 5 z = x ++ [c, z] ∧ nth (x ++ [c, e]) 4 = c ∧ nth (x ++ [c, e]) 5 = e ∧ (x ++ [c, e]).length = 6 := by
  obtain ⟨a, b, c, d, rfl⟩ := list4 x hx
  exact ⟨rfl, rfl, rfl, rfl, rfl⟩
/-- Memory while scored goes on. -/
def ScM (w wr : World) (x : List Int) (B7 : Nat) (rs : List Int) : Prop := Blk wr w.heap.size 22 x ∧ Blk wr (w.heap.size + 1) 52 (zeros 6) ∧ Blk wr B7 52 rs ∧ w.heap.size + 1 < B7 ∧ w.grownBy wr none
theorem ScM.keep {w wr wr' : World} {x rs : List Int} {B7 : Nat} (h : ScM w wr x B7 rs) (g : wr.grownBy wr' none) : ScM w wr' x B7 rs := ⟨h.1.keep g, h.2.1.keep g, h.2.2.1.keep g, h.2.2.2.1, grown_none h.2.2.2.2 g⟩
theorem ScM.set {w wr : World} {x rs : List Int} {B7 : Nat} (h : ScM w wr x B7 rs) (k : Nat) (z : Int) : ScM w (wr.setCell ⟨B7, k, none⟩ (.int .i64 z)) x B7 (rs.set k z) := by
  have hB := h.2.2.2.1
  have g := grown_setCell wr ⟨B7, k, none⟩ (.int .i64 z)
  exact ⟨h.1.keepBut g (by simp; omega), h.2.1.keepBut g (by simp; omega), h.2.2.1.set k z, hB, grown_own h.2.2.2.2 g (by simp; omega)⟩
theorem ScM.put {w wr : World} {x rs rs' : List Int} {B7 : Nat} (h : ScM w wr x B7 rs) (hl : rs'.length = rs.length) : ScM w (putArr wr B7 rs') x B7 rs' := by
  have hB := h.2.2.2.1
  have PU := put_arr (rs' := rs') h.2.2.1 hl
  exact ⟨h.1.keepBut PU.2 (by omega), h.2.1.keepBut PU.2 (by omega), PU.1, hB, grown_own h.2.2.2.2 PU.2 (by omega)⟩
set_option maxRecDepth 100000 in
theorem pulScored_any (vd : Value) (d r x : List Int) (B : Nat) (w : World) (hd : Ints w vd d) (hdl : d.length = 40) (hB : Blk w B 73 (tbl r)) (hx : x.length = 4) (hg : goodX x = true) :
    Calls Try.prog 36 #[vd, .pointer (some ⟨B, 0, none⟩), .agg (arrI x)] w (AnsG w (.agg (arrI (x ++ [cS d x, eS d r x])))) := by
  have L2 := hide (laid2 w 22 52 x (zeros 6))
  have IX := hide (fun (k : Nat) (hk : k < 4) => index_arr x Try.underlying22 k (by omega) hx)
  have PL := hide (psN_lt hg hx)
  have GX := hide ((goodX_iff x).1 hg)
  have DV := hide (fun wr (g : w.grownBy wr none) => Ints_keep hd g)
  have TB := hide (fun wr (g : w.grownBy wr none) => hB.keep g)
  have CH := hide (fun (c e z : Int) => cho_c x hx c e z)
  have BC := builtCho x hx
  obtain ⟨ad, cp, rfl, hcp, _⟩ := hd
  have hz := zero_arr zCho
  have HDL := hide hdl
  rw [hdl]
  clear hB hg hcp hdl
  go_enter Try.func36, Try.ntmps36
  go_upto_region 1 with fail
  have L0 := hide (show w.heap.size + 1 < ((w.alloc (.cells (arrI x) 22)).alloc (.cells (arrI (zeros 6)) 52)).heap.size by simp)
  generalize (w.alloc (.cells (arrI x) 22)).alloc (.cells (arrI (zeros 6)) 52) = W1 at *
  have M1 := hide (show ScM w (W1.alloc (.cells (arrI (zeros 6)) 52)) x W1.heap.size (zeros 6) from ⟨L2.out.1.keep (grown_alloc _ _ none), L2.out.2.1.keep (grown_alloc _ _ none), Blk.new W1 _ _, L0.out, grown_none L2.out.2.2 (grown_alloc _ _ none)⟩)
  have M2 := hide (M1.out.put (rs' := x ++ [0, 0]) (by rw [(CH.out 0 0 0).2.2.2.2]; rfl))
  have BB := hide L2.out.1
  clear L2 L0
  go_upto_region 2 with (first | refine wpList_load_arr rfl 22 _ rfl _ rfl _ BB.out _ Try.underlying22 rfl (by rw [hx]; exact size4) ?_ | refine wpList_build1 rfl 52 0 _ rfl (.agg (arrI x)) (.agg (arrI (x ++ [0, 0]))) rfl (BC _) ?_ | refine wpList_store_arr rfl 52 _ _ rfl _ (zeros 6) (x ++ [0, 0]) rfl rfl M1.out.2.2.1 (by rw [(CH.out 0 0 0).2.2.2.2]; rfl) (by rw [zeros_len]; exact sCho) ?_)
  clear M1 BB BC hz
  (try simp only [Act.put])
  generalize putArr (W1.alloc _) W1.heap.size (x ++ [0, 0]) = W2 at *
  generalize W1.heap.size = B7 at *
  have BB := hide M2.out.1
  go_wp2_with (first | refine wpList_load_arr rfl 22 _ rfl _ rfl _ BB.out _ Try.underlying22 rfl (by rw [hx]; exact size4) ?_)
  clear BB
  go_loopw [17] (fun i wr => ∃ m : Nat, i = .int .i64 m ∧ m ≤ 4 ∧ Hid (ScM w wr x B7 (x ++ [scC d x m, scE d r x m 0]))) (fun i _ => 4 - (intOf i).toNat)
  case atStart => exact ⟨0, rfl, Nat.zero_le _, M2.out⟩
  case round =>
    obtain ⟨m, rfl, hm, hM⟩ := hrel
    clear M2
    by_cases hm4 : m < 4
    · have hix := IX.out m hm4
      have hPL := PL.out m hm4
      obtain ⟨g1, g2⟩ := GX.out m (by omega)
      have AT := hide (pulAt_any (m : Int) (nth x m) (by omega) (by omega) g1 g2 wr)
      rw [show (m : Int) + 4 * nth x m = ((psN x m : Nat) : Int) by unfold psN; omega] at AT
      obtain ⟨ad', c', e', h1, h2⟩ := DV.out wr hM.out.2.2.2.2
      simp only [Value.slice.injEq] at e'
      obtain ⟨rfl, e2, rfl⟩ := e'
      obtain ⟨a, rfl, h3⟩ := h2 (by rw [HDL.out]; omega)
      have cz := h3 (psN x m) (by rw [HDL.out]; omega)
      have CC := CH.out (scC d x m) (scE d r x m 0) (scC d x (m + 1))
      have c4 := hM.out.2.2.1.cell 4 (by omega)
      rw [CC.2.2.1] at c4
      have f4 := hM.out.2.2.1.free 4
      have NM := hide (hM.out.set 4 (scC d x (m + 1)))
      rw [CC.1] at NM
      have i1 : (m : Int) < 4 := by omega
      have i2 : ((psN x m : Nat) : Int) < 40 := by omega
      rw [show scC d x (m + 1) = wrap64 (scC d x m + wrap64 (sg (nth d (psN x m)) * nth d (psN x m))) from rfl] at NM
      have EC := hide (show scC d x (m + 1) = wrap64 (scC d x m + wrap64 (sg (nth d (psN x m)) * nth d (psN x m))) from rfl)
      have ZE := hide (show nth d (psN x m) = nth d (psN x m) from rfl)
      clear e2 h1 h2 h3 hM CC
      generalize hz : nth d (psN x m) = z at cz NM EC
      generalize scC d x m = C at *
      have PE := hide (rfl : psN x m = psN x m)
      generalize hP : psN x m = P at *
      have HP := hide hP
      have HZ := hide hz
      clear hP hz PE ZE
      generalize nth x m = pl at *
      go_wp2_with fail
      refine AT.out.mono ?_
      rintro e wy ⟨rfl, rfl⟩
      clear AT
      go_upto_region 6 with fail
      refine wp_region_G 14 (fun w' => w' = wy.drew) 15 (by rfl) #[false, false, false, false, false, false, false, false, false, false, false, false, false, false, false] (by rfl) (by kernel_rfl) (fun hcl => ?_)
      refine wpAnyG_take (i := 0) (v := ?vsa0) rfl (by kernel_rfl) hcl (fun _ _ _ h => h) (Or.inl ⟨by rfl, ?ysa0⟩) rfl (fun hcl => ?rsa0)
      case ysa0 => (intro w' hSw; subst hSw; go_simp; try with_reducible rfl)
      (try simp only [Act.put, List.setIfInBounds_toArray, List.set_cons_zero, List.set_cons_succ, List.getElem_toArray, List.getElem_cons_zero, List.getElem_cons_succ])
      refine wpAnyG_take (i := 1) (v := .int .i64 C) rfl (by kernel_rfl) hcl (fun _ _ _ h => h) (Or.inl ⟨by rfl, ?ysa1⟩) rfl (fun hcl => ?rsa1)
      case ysa1 => (intro w' hSw; subst hSw; go_simp; try with_reducible rfl)
      (try simp only [Act.put, List.setIfInBounds_toArray, List.set_cons_zero, List.set_cons_succ, List.getElem_toArray, List.getElem_cons_zero, List.getElem_cons_succ])
      refine wpAnyG_take (i := 2) (v := ?vsa2) rfl (by kernel_rfl) hcl (fun _ _ _ h => h) (Or.inl ⟨by rfl, ?ysa2⟩) rfl (fun hcl => ?rsa2)
      case ysa2 => (intro w' hSw; subst hSw; go_simp; try with_reducible rfl)
      (try simp only [Act.put, List.setIfInBounds_toArray, List.set_cons_zero, List.set_cons_succ, List.getElem_toArray, List.getElem_cons_zero, List.getElem_cons_succ])
      refine wpAnyG_take (i := 3) (v := ?vsa3) rfl (by kernel_rfl) hcl (fun _ _ _ h => h) (Or.inl ⟨by rfl, ?ysa3⟩) rfl (fun hcl => ?rsa3)
      case ysa3 => (intro w' hSw; subst hSw; go_simp; try with_reducible rfl)
      (try simp only [Act.put, List.setIfInBounds_toArray, List.set_cons_zero, List.set_cons_succ, List.getElem_toArray, List.getElem_cons_zero, List.getElem_cons_succ])
      refine wpAnyG_take (i := 4) (v := ?vsa4) rfl (by kernel_rfl) hcl (fun _ _ _ h => h) (Or.inl ⟨by rfl, ?ysa4⟩) rfl (fun hcl => ?rsa4)
      case ysa4 => (intro w' hSw; subst hSw; go_simp; try with_reducible rfl)
      (try simp only [Act.put, List.setIfInBounds_toArray, List.set_cons_zero, List.set_cons_succ, List.getElem_toArray, List.getElem_cons_zero, List.getElem_cons_succ])
      refine wpAnyG_take (i := 5) (v := .int .i64 z) rfl (by kernel_rfl) hcl (fun _ _ _ h => h) (Or.inl ⟨by rfl, ?ysa5⟩) rfl (fun hcl => ?rsa5)
      case ysa5 => (intro w' hSw; subst hSw; go_simp; try with_reducible rfl)
      (try simp only [Act.put, List.setIfInBounds_toArray, List.set_cons_zero, List.set_cons_succ, List.getElem_toArray, List.getElem_cons_zero, List.getElem_cons_succ])
      refine wpAnyG_take (i := 7) (v := ?vsa7) rfl (by kernel_rfl) hcl (fun _ _ _ h => h) (Or.inl ⟨by rfl, ?ysa7⟩) rfl (fun hcl => ?rsa7)
      case ysa7 => (intro w' hSw; subst hSw; go_simp; try with_reducible rfl)
      (try simp only [Act.put, List.setIfInBounds_toArray, List.set_cons_zero, List.set_cons_succ, List.getElem_toArray, List.getElem_cons_zero, List.getElem_cons_succ])
      refine wpAnyG_take (i := 8) (v := ?vsa8) rfl (by kernel_rfl) hcl (fun _ _ _ h => h) (Or.inl ⟨by rfl, ?ysa8⟩) rfl (fun hcl => ?rsa8)
      case ysa8 => (intro w' hSw; subst hSw; go_simp; try with_reducible rfl)
      (try simp only [Act.put, List.setIfInBounds_toArray, List.set_cons_zero, List.set_cons_succ, List.getElem_toArray, List.getElem_cons_zero, List.getElem_cons_succ])
      refine wpAnyG_take (i := 9) (v := ?vsa9) rfl (by kernel_rfl) hcl (fun _ _ _ h => h) (Or.inl ⟨by rfl, ?ysa9⟩) rfl (fun hcl => ?rsa9)
      case ysa9 => (intro w' hSw; subst hSw; go_simp; try with_reducible rfl)
      (try simp only [Act.put, List.setIfInBounds_toArray, List.set_cons_zero, List.set_cons_succ, List.getElem_toArray, List.getElem_cons_zero, List.getElem_cons_succ])
      refine wpAnyG_take (i := 10) (v := .int .i64 z) rfl (by kernel_rfl) hcl (fun _ _ _ h => h) (Or.inl ⟨by rfl, ?ysa10⟩) rfl (fun hcl => ?rsa10)
      case ysa10 => (intro w' hSw; subst hSw; go_simp; try with_reducible rfl)
      (try simp only [Act.put, List.setIfInBounds_toArray, List.set_cons_zero, List.set_cons_succ, List.getElem_toArray, List.getElem_cons_zero, List.getElem_cons_succ])
      refine wpAnyG_exec (i := 6) rfl (by kernel_rfl) hcl (fun K hK => ?_)
      (try simp only [Act.put, List.setIfInBounds_toArray, List.set_cons_zero, List.set_cons_succ, List.getElem_toArray, List.getElem_cons_zero, List.getElem_cons_succ])
      go_simp
      refine (pulSign_any z _).mono ?_
      rintro e wc ⟨rfl, rfl⟩
      go_wp2_with fail
      refine hK.out _ _ (fun _ => rfl) (fun hcl => ?_)
      clear hK
      (try simp only [Act.put, List.setIfInBounds_toArray, List.set_cons_zero, List.set_cons_succ, List.getElem_toArray, List.getElem_cons_zero, List.getElem_cons_succ])
      refine wpAnyG_take (i := 11) (v := .int .i64 (wrap64 (sg z * z))) rfl (by kernel_rfl) hcl (fun _ _ _ h => h) (Or.inl ⟨by rfl, ?ysa11⟩) rfl (fun hcl => ?rsa11)
      case ysa11 => (intro w' hSw; subst hSw; go_simp; rw [IntKind.wrap_i64]; simp only [wrap64])
      (try simp only [Act.put, List.setIfInBounds_toArray, List.set_cons_zero, List.set_cons_succ, List.getElem_toArray, List.getElem_cons_zero, List.getElem_cons_succ])
      refine wpAnyG_take (i := 12) (v := .int .i64 (wrap64 (C + wrap64 (sg z * z)))) rfl (by kernel_rfl) hcl (fun _ _ _ h => h) (Or.inl ⟨by rfl, ?ysa12⟩) rfl (fun hcl => ?rsa12)
      case ysa12 => (intro w' hSw; subst hSw; go_simp; rw [IntKind.wrap_i64]; simp only [wrap64])
      (try simp only [Act.put, List.setIfInBounds_toArray, List.set_cons_zero, List.set_cons_succ, List.getElem_toArray, List.getElem_cons_zero, List.getElem_cons_succ])
      refine wpAnyG_take (i := 13) (v := ?vsa13) rfl (by kernel_rfl) hcl (fun _ _ _ h => h) (Or.inl ⟨by rfl, ?ysa13⟩) rfl (fun hcl => ?rsa13)
      case ysa13 => (intro w' hSw; subst hSw; go_simp; try with_reducible rfl)
      (try simp only [Act.put, List.setIfInBounds_toArray, List.set_cons_zero, List.set_cons_succ, List.getElem_toArray, List.getElem_cons_zero, List.getElem_cons_succ])
      refine wpAnyG_exec (i := 14) rfl (by kernel_rfl) hcl (fun K hK => ?_)
      (try simp only [Act.put, List.setIfInBounds_toArray, List.set_cons_zero, List.set_cons_succ, List.getElem_toArray, List.getElem_cons_zero, List.getElem_cons_succ])
      go_simp
      go_wp2_with fail
      refine hK.out _ _ (fun h => by cases h) (fun hcl => ?_)
      clear hK
      (try simp only [Act.put, List.setIfInBounds_toArray, List.set_cons_zero, List.set_cons_succ, List.getElem_toArray, List.getElem_cons_zero, List.getElem_cons_succ])
      refine wpAnyG_of_any _ _ _ _ (by rfl) ?_
      refine wpAny_done (by kernel_rfl) ?_ _
      have NM1 := hide (NM.out.keep (gw_start _))
      generalize (wy.setCell ⟨B7, 4, none⟩ (.int .i64 (wrap64 (C + wrap64 (sg z * z))))).drew = wz at *
      rw [← EC.out] at NM1
      clear NM EC c4 f4 cz hix g1 g2
      have BB := hide NM1.out.1
      go_wp2_with (first | refine wpList_load_arr rfl 22 _ rfl _ rfl _ BB.out _ Try.underlying22 rfl (by rw [hx]; exact size4) ?_)
      clear BB
      go_loopw [39] (fun i wr => ∃ u : Nat, i = .int .i64 u ∧ u ≤ 4 ∧ Hid (ScM w wr x B7 (x ++ [scC d x (m + 1), scE d r x m u]))) (fun i _ => 4 - (intOf i).toNat)
      case atStart => exact ⟨0, rfl, Nat.zero_le _, NM1.out⟩
      case round =>
        obtain ⟨u, rfl, hu, hM⟩ := hrel
        clear NM1
        by_cases hu4 : u < 4
        · have hix := IX.out u hu4
          have hPL2 := PL.out u hu4
          obtain ⟨g1, g2⟩ := GX.out u (by omega)
          have AT := hide (pulAt_any (u : Int) (nth x u) (by omega) (by omega) g1 g2 wr)
          rw [show (u : Int) + 4 * nth x u = ((psN x u : Nat) : Int) by unfold psN; omega] at AT
          obtain ⟨ad', c', e', h1, h2⟩ := DV.out wr hM.out.2.2.2.2
          simp only [Value.slice.injEq] at e'
          obtain ⟨e1, e2, rfl⟩ := e'
          obtain ⟨a', rfl, h3⟩ := h2 (by rw [HDL.out]; omega)
          obtain rfl : a = a' := by simpa using e1
          have cz := h3 P (by rw [HDL.out]; omega)
          have cy := h3 (psN x u) (by rw [HDL.out]; omega)
          rw [HZ.out] at cz
          have ct := (TB.out wr hM.out.2.2.2.2).cell (P * 40 + psN x u) (by rw [tbl_len]; omega)
          rw [tbl_at r P (psN x u) hPL hPL2] at ct
          have CC := CH.out (scC d x (m + 1)) (scE d r x m u) (scE d r x m (u + 1))
          have c5 := hM.out.2.2.1.cell 5 (by omega)
          rw [CC.2.2.2.1] at c5
          have f5 := hM.out.2.2.1.free 5
          have NM := hide (hM.out.set 5 (scE d r x m (u + 1)))
          rw [CC.2.1] at NM
          have ES := hide (show scE d r x m (u + 1) = scE d r x m u + sg z * sg (nth d (psN x u)) * enN r P (psN x u) by
            rw [scE_step]; unfold scT ssN; rw [HP.out, HZ.out])
          have b1 := scT_bd d r x m u
          rw [show scT d r x m u = sg z * sg (nth d (psN x u)) * enN r P (psN x u) by unfold scT ssN; rw [HP.out, HZ.out]] at b1
          have b2 := scE_bd d r x m (u + 1) (by omega) (by omega)
          rw [ES.out] at b2 NM
          have b3 : -1 ≤ sg z * sg (nth d (psN x u)) ∧ sg z * sg (nth d (psN x u)) ≤ 1 := by
            rcases sg_cases z with ⟨_, h⟩ | ⟨_, h⟩ <;> rcases sg_cases (nth d (psN x u)) with ⟨_, g⟩ | ⟨_, g⟩ <;> rw [h, g] <;> omega
          have i3 : (u : Int) < 4 := by omega
          have i4 : ((psN x u : Nat) : Int) < 40 := by omega
          clear e1 e2 h1 h2 h3 hM CC
          generalize scE d r x m u = E at *
          generalize enN r P (psN x u) = n at *
          generalize nth d (psN x u) = y at *
          generalize psN x u = Q at *
          generalize nth x u = ql at *
          have W1 := wrapI (sg z * sg y) (by omega) (by omega)
          have W2 := wrapI (sg z * sg y * n) (by omega) (by omega)
          have W3 := wrapI (E + sg z * sg y * n) (by omega) (by omega)
          go_wp2_with fail
          refine AT.out.mono ?_
          rintro e wy ⟨rfl, rfl⟩
          clear AT
          go_upto_region 11 with fail
          refine wp_region_G 23 (fun w' => w' = wy.drew) 24 (by rfl) #[false, false, false, false, false, false, false, false, false, false, false, false, false, false, false, false, false, false, false, false, false, false, false, false] (by rfl) (by kernel_rfl) (fun hcl => ?_)
          refine wpAnyG_take (i := 0) (v := ?vsb0) rfl (by kernel_rfl) hcl (fun _ _ _ h => h) (Or.inl ⟨by rfl, ?ysb0⟩) rfl (fun hcl => ?rsb0)
          case ysb0 => (intro w' hSw; subst hSw; go_simp; try with_reducible rfl)
          (try simp only [Act.put, List.setIfInBounds_toArray, List.set_cons_zero, List.set_cons_succ, List.getElem_toArray, List.getElem_cons_zero, List.getElem_cons_succ])
          refine wpAnyG_take (i := 1) (v := .int .i64 E) rfl (by kernel_rfl) hcl (fun _ _ _ h => h) (Or.inl ⟨by rfl, ?ysb1⟩) rfl (fun hcl => ?rsb1)
          case ysb1 => (intro w' hSw; subst hSw; go_simp; try with_reducible rfl)
          (try simp only [Act.put, List.setIfInBounds_toArray, List.set_cons_zero, List.set_cons_succ, List.getElem_toArray, List.getElem_cons_zero, List.getElem_cons_succ])
          refine wpAnyG_take (i := 2) (v := ?vsb2) rfl (by kernel_rfl) hcl (fun _ _ _ h => h) (Or.inl ⟨by rfl, ?ysb2⟩) rfl (fun hcl => ?rsb2)
          case ysb2 => (intro w' hSw; subst hSw; go_simp; try with_reducible rfl)
          (try simp only [Act.put, List.setIfInBounds_toArray, List.set_cons_zero, List.set_cons_succ, List.getElem_toArray, List.getElem_cons_zero, List.getElem_cons_succ])
          refine wpAnyG_take (i := 3) (v := ?vsb3) rfl (by kernel_rfl) hcl (fun _ _ _ h => h) (Or.inl ⟨by rfl, ?ysb3⟩) rfl (fun hcl => ?rsb3)
          case ysb3 => (intro w' hSw; subst hSw; go_simp; try with_reducible rfl)
          (try simp only [Act.put, List.setIfInBounds_toArray, List.set_cons_zero, List.set_cons_succ, List.getElem_toArray, List.getElem_cons_zero, List.getElem_cons_succ])
          refine wpAnyG_take (i := 4) (v := ?vsb4) rfl (by kernel_rfl) hcl (fun _ _ _ h => h) (Or.inl ⟨by rfl, ?ysb4⟩) rfl (fun hcl => ?rsb4)
          case ysb4 => (intro w' hSw; subst hSw; go_simp; try with_reducible rfl)
          (try simp only [Act.put, List.setIfInBounds_toArray, List.set_cons_zero, List.set_cons_succ, List.getElem_toArray, List.getElem_cons_zero, List.getElem_cons_succ])
          refine wpAnyG_take (i := 5) (v := .int .i64 z) rfl (by kernel_rfl) hcl (fun _ _ _ h => h) (Or.inl ⟨by rfl, ?ysb5⟩) rfl (fun hcl => ?rsb5)
          case ysb5 => (intro w' hSw; subst hSw; go_simp; try with_reducible rfl)
          (try simp only [Act.put, List.setIfInBounds_toArray, List.set_cons_zero, List.set_cons_succ, List.getElem_toArray, List.getElem_cons_zero, List.getElem_cons_succ])
          refine wpAnyG_take (i := 7) (v := ?vsb7) rfl (by kernel_rfl) hcl (fun _ _ _ h => h) (Or.inl ⟨by rfl, ?ysb7⟩) rfl (fun hcl => ?rsb7)
          case ysb7 => (intro w' hSw; subst hSw; go_simp; try with_reducible rfl)
          (try simp only [Act.put, List.setIfInBounds_toArray, List.set_cons_zero, List.set_cons_succ, List.getElem_toArray, List.getElem_cons_zero, List.getElem_cons_succ])
          refine wpAnyG_take (i := 8) (v := ?vsb8) rfl (by kernel_rfl) hcl (fun _ _ _ h => h) (Or.inl ⟨by rfl, ?ysb8⟩) rfl (fun hcl => ?rsb8)
          case ysb8 => (intro w' hSw; subst hSw; go_simp; try with_reducible rfl)
          (try simp only [Act.put, List.setIfInBounds_toArray, List.set_cons_zero, List.set_cons_succ, List.getElem_toArray, List.getElem_cons_zero, List.getElem_cons_succ])
          refine wpAnyG_take (i := 9) (v := ?vsb9) rfl (by kernel_rfl) hcl (fun _ _ _ h => h) (Or.inl ⟨by rfl, ?ysb9⟩) rfl (fun hcl => ?rsb9)
          case ysb9 => (intro w' hSw; subst hSw; go_simp; try with_reducible rfl)
          (try simp only [Act.put, List.setIfInBounds_toArray, List.set_cons_zero, List.set_cons_succ, List.getElem_toArray, List.getElem_cons_zero, List.getElem_cons_succ])
          refine wpAnyG_take (i := 10) (v := .int .i64 y) rfl (by kernel_rfl) hcl (fun _ _ _ h => h) (Or.inl ⟨by rfl, ?ysb10⟩) rfl (fun hcl => ?rsb10)
          case ysb10 => (intro w' hSw; subst hSw; go_simp; try with_reducible rfl)
          (try simp only [Act.put, List.setIfInBounds_toArray, List.set_cons_zero, List.set_cons_succ, List.getElem_toArray, List.getElem_cons_zero, List.getElem_cons_succ])
          refine wpAnyG_take (i := 13) (v := ?vsb13) rfl (by kernel_rfl) hcl (fun _ _ _ h => h) (Or.inl ⟨by rfl, ?ysb13⟩) rfl (fun hcl => ?rsb13)
          case ysb13 => (intro w' hSw; subst hSw; go_simp; try with_reducible rfl)
          (try simp only [Act.put, List.setIfInBounds_toArray, List.set_cons_zero, List.set_cons_succ, List.getElem_toArray, List.getElem_cons_zero, List.getElem_cons_succ])
          refine wpAnyG_take (i := 14) (v := ?vsb14) rfl (by kernel_rfl) hcl (fun _ _ _ h => h) (Or.inl ⟨by rfl, ?ysb14⟩) rfl (fun hcl => ?rsb14)
          case ysb14 => (intro w' hSw; subst hSw; go_simp; try with_reducible rfl)
          (try simp only [Act.put, List.setIfInBounds_toArray, List.set_cons_zero, List.set_cons_succ, List.getElem_toArray, List.getElem_cons_zero, List.getElem_cons_succ])
          refine wpAnyG_take (i := 15) (v := ?vsb15) rfl (by kernel_rfl) hcl (fun _ _ _ h => h) (Or.inl ⟨by rfl, ?ysb15⟩) rfl (fun hcl => ?rsb15)
          case ysb15 => (intro w' hSw; subst hSw; go_simp; try with_reducible rfl)
          (try simp only [Act.put, List.setIfInBounds_toArray, List.set_cons_zero, List.set_cons_succ, List.getElem_toArray, List.getElem_cons_zero, List.getElem_cons_succ])
          refine wpAnyG_take (i := 16) (v := ?vsb16) rfl (by kernel_rfl) hcl (fun _ _ _ h => h) (Or.inl ⟨by rfl, ?ysb16⟩) rfl (fun hcl => ?rsb16)
          case ysb16 => (intro w' hSw; subst hSw; go_simp; try with_reducible rfl)
          (try simp only [Act.put, List.setIfInBounds_toArray, List.set_cons_zero, List.set_cons_succ, List.getElem_toArray, List.getElem_cons_zero, List.getElem_cons_succ])
          refine wpAnyG_take (i := 17) (v := ?vsb17) rfl (by kernel_rfl) hcl (fun _ _ _ h => h) (Or.inl ⟨by rfl, ?ysb17⟩) rfl (fun hcl => ?rsb17)
          case ysb17 => (intro w' hSw; subst hSw; go_simp; try with_reducible rfl)
          (try simp only [Act.put, List.setIfInBounds_toArray, List.set_cons_zero, List.set_cons_succ, List.getElem_toArray, List.getElem_cons_zero, List.getElem_cons_succ])
          refine wpAnyG_take (i := 18) (v := ?vsb18) rfl (by kernel_rfl) hcl (fun _ _ _ h => h) (Or.inl ⟨by rfl, ?ysb18⟩) rfl (fun hcl => ?rsb18)
          case ysb18 => (intro w' hSw; subst hSw; go_simp; try with_reducible rfl)
          (try simp only [Act.put, List.setIfInBounds_toArray, List.set_cons_zero, List.set_cons_succ, List.getElem_toArray, List.getElem_cons_zero, List.getElem_cons_succ])
          refine wpAnyG_take (i := 19) (v := .int .i64 n) rfl (by kernel_rfl) hcl (fun _ _ _ h => h) (Or.inl ⟨by rfl, ?ysb19⟩) rfl (fun hcl => ?rsb19)
          case ysb19 => (intro w' hSw; subst hSw; go_simp; try with_reducible rfl)
          (try simp only [Act.put, List.setIfInBounds_toArray, List.set_cons_zero, List.set_cons_succ, List.getElem_toArray, List.getElem_cons_zero, List.getElem_cons_succ])
          refine wpAnyG_exec (i := 6) rfl (by kernel_rfl) hcl (fun K hK => ?_)
          (try simp only [Act.put, List.setIfInBounds_toArray, List.set_cons_zero, List.set_cons_succ, List.getElem_toArray, List.getElem_cons_zero, List.getElem_cons_succ])
          go_simp
          refine (pulSign_any z _).mono ?_
          rintro e wc ⟨rfl, rfl⟩
          go_wp2_with fail
          refine hK.out _ _ (fun _ => rfl) (fun hcl => ?_)
          clear hK
          (try simp only [Act.put, List.setIfInBounds_toArray, List.set_cons_zero, List.set_cons_succ, List.getElem_toArray, List.getElem_cons_zero, List.getElem_cons_succ])
          refine wpAnyG_exec (i := 11) rfl (by kernel_rfl) hcl (fun K hK => ?_)
          (try simp only [Act.put, List.setIfInBounds_toArray, List.set_cons_zero, List.set_cons_succ, List.getElem_toArray, List.getElem_cons_zero, List.getElem_cons_succ])
          go_simp
          refine (pulSign_any y _).mono ?_
          rintro e wc ⟨rfl, rfl⟩
          go_wp2_with fail
          refine hK.out _ _ (fun _ => rfl) (fun hcl => ?_)
          clear hK
          (try simp only [Act.put, List.setIfInBounds_toArray, List.set_cons_zero, List.set_cons_succ, List.getElem_toArray, List.getElem_cons_zero, List.getElem_cons_succ])
          refine wpAnyG_take (i := 12) (v := .int .i64 (sg z * sg y)) rfl (by kernel_rfl) hcl (fun _ _ _ h => h) (Or.inl ⟨by rfl, ?ysb12⟩) rfl (fun hcl => ?rsb12)
          case ysb12 => (intro w' hSw; subst hSw; go_simp; try simp only [W1])
          (try simp only [Act.put, List.setIfInBounds_toArray, List.set_cons_zero, List.set_cons_succ, List.getElem_toArray, List.getElem_cons_zero, List.getElem_cons_succ])
          refine wpAnyG_take (i := 20) (v := .int .i64 (sg z * sg y * n)) rfl (by kernel_rfl) hcl (fun _ _ _ h => h) (Or.inl ⟨by rfl, ?ysb20⟩) rfl (fun hcl => ?rsb20)
          case ysb20 => (intro w' hSw; subst hSw; go_simp; try simp only [W2])
          (try simp only [Act.put, List.setIfInBounds_toArray, List.set_cons_zero, List.set_cons_succ, List.getElem_toArray, List.getElem_cons_zero, List.getElem_cons_succ])
          refine wpAnyG_take (i := 21) (v := .int .i64 (E + sg z * sg y * n)) rfl (by kernel_rfl) hcl (fun _ _ _ h => h) (Or.inl ⟨by rfl, ?ysb21⟩) rfl (fun hcl => ?rsb21)
          case ysb21 => (intro w' hSw; subst hSw; go_simp; try simp only [W3])
          (try simp only [Act.put, List.setIfInBounds_toArray, List.set_cons_zero, List.set_cons_succ, List.getElem_toArray, List.getElem_cons_zero, List.getElem_cons_succ])
          refine wpAnyG_take (i := 22) (v := ?vsb22) rfl (by kernel_rfl) hcl (fun _ _ _ h => h) (Or.inl ⟨by rfl, ?ysb22⟩) rfl (fun hcl => ?rsb22)
          case ysb22 => (intro w' hSw; subst hSw; go_simp; try with_reducible rfl)
          (try simp only [Act.put, List.setIfInBounds_toArray, List.set_cons_zero, List.set_cons_succ, List.getElem_toArray, List.getElem_cons_zero, List.getElem_cons_succ])
          refine wpAnyG_exec (i := 23) rfl (by kernel_rfl) hcl (fun K hK => ?_)
          (try simp only [Act.put, List.setIfInBounds_toArray, List.set_cons_zero, List.set_cons_succ, List.getElem_toArray, List.getElem_cons_zero, List.getElem_cons_succ])
          go_simp
          go_wp2_with fail
          refine hK.out _ _ (fun h => by cases h) (fun hcl => ?_)
          clear hK
          (try simp only [Act.put, List.setIfInBounds_toArray, List.set_cons_zero, List.set_cons_succ, List.getElem_toArray, List.getElem_cons_zero, List.getElem_cons_succ])
          refine wpAnyG_of_any _ _ _ _ (by rfl) ?_
          refine wpAny_done (by kernel_rfl) ?_ _
          have NM1 := hide (NM.out.keep (gw_start _))
          generalize (wy.setCell ⟨B7, 5, none⟩ (.int .i64 (E + sg z * sg y * n))).drew = wz at *
          rw [← ES.out] at NM1
          clear NM ES c5 f5 cz cy ct hix g1 g2 W1 W2 W3 b1 b2 b3
          go_wp2_with fail
          go_roundw
          case rel => exact ⟨u + 1, by go_num, by omega, NM1.out⟩
          case measure => simp [intOf]; omega
        · obtain rfl : u = 4 := by omega
          have NM := hM
          rw [scE_next] at NM
          clear hM
          rw [show ((4 : Nat) : Int) = 4 from rfl]
          go_wp2_with fail
          go_roundw
          case rel => exact ⟨m + 1, by go_num, by omega, NM.out⟩
          case measure => simp [intOf]; omega
    · obtain rfl : m = 4 := by omega
      have BA := hide hM.out.2.2.1
      have BZ := hide hM.out.2.1
      have GG := hide hM.out.2.2.2.2
      have L6 := (CH.out (scC d x 4) (scE d r x 4 0) 0).2.2.2.2
      rw [show scC d x 4 = cS d x from rfl, show scE d r x 4 0 = eS d r x from rfl] at BA L6
      clear hM
      generalize x ++ [cS d x, eS d r x] = X at *
      have HL6 := hide L6
      clear L6
      rw [show ((4 : Nat) : Int) = 4 from rfl]
      go_wp2_with (first | refine wpList_load_arr rfl 52 _ rfl _ rfl _ BA.out _ Try.underlying52 rfl (by rw [HL6.out]; exact sCho) ?_ | refine wpList_store_arr rfl 52 _ _ rfl _ (zeros 6) X rfl rfl BZ.out (by rw [HL6.out, zeros_len]) (by rw [zeros_len]; exact sCho) ?_)
      have PU := put_arr (rs' := X) BZ.out (by rw [HL6.out, zeros_len])
      have hlv := loadVar_arr PU.1 _ Try.underlying52 rfl (by rw [HL6.out]; exact sCho)
      have GF := hide (grown_own GG.out PU.2 (by omega))
      refine bodyPost_ret (v := .agg (arrI X)) ?_ rfl ⟨rfl, GF.out⟩
      simp [results, Try.results36, asAddr, Act.put, hlv]
end Go.Proofs.Ytdeappknlcmbbaa
