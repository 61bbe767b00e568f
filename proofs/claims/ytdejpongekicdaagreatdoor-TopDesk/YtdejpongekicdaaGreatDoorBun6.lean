/- Texts put together: DkC, DkD, DkO, DkL, OpensC, TopC, TopL, TopEnd, TopEw, TopE, TopD, CnpS, CnpA, CodA, CodMath. -/
import Derived.Test.YtdejpongekicdaaGreatDoorBun5
import Derived.Test.YtdejpongekicdaaGreatDoorBun1
import Derived.Deep.Slices
import Derived.Test.YtdejpongekicdaaGreatDoorBun2
import Derived.Deep.CutRange
import Derived.BigQuiet
import Derived.Deep.QuietTactic
import Derived.Shelf.Small.Bits
/- DkC -/
namespace Go.Proofs.YtdejpongekicdaaGreatDoor
open Go.RowKit
set_option linter.unusedVariables false
set_option linter.unusedSimpArgs false
set_option maxHeartbeats 4000000
theorem step_mapU {y : Nat → Option Bool} {o : Oper} {a : Act} {w : World} {K : Act → World → Prop} {Q : Exit → Act → World → Prop} {E : Prop} (hg : o.guard = none) (m x v : Operand) (hop : o.op = Op.mapUpdate 68 m x v) (b n : Nat) (D : DataW Unit) (hm : a.eval m = .map (some b))
  (hown : w.ownsMap Tryz.prog 3 ptrE b n D) (hn : n < maxLen) (z : Int) (hz : In1 z) (hx : a.eval x = .int .i64 z) (B : Nat) (hv : a.eval v = .pointer (some ⟨B, 0, none⟩))
  (k : ∀ w', w'.ownsMap Tryz.prog 3 ptrE b (n + 1) (D.put (.int .i64 z) (.lit (.int .i64 B))) → w.grownBy w' (some b) → K (a.put o.dst undef) w') : if Region.wanted o y = true then Oper.wp Tryz.prog o a w K Q else E := by
 have hw : Region.wanted o y = true := by simp [Region.wanted, hg]
 rw [if_pos hw]
 obtain ⟨w', hrun, r1, r2⟩ := hown.update keyI Tryz.underlying68 hn (Maps.keyOf_int_mk Tryz.underlying3 (wfI hz)) (val := .pointer (some ⟨B, 0, none⟩)) (d := .lit (.int .i64 B)) (ps := []) rfl
 unfold Oper.wp
 simp [execOp, hop, hm, hx, hv, hrun, Result.andThen]
 exact k w' r1 r2
theorem step_del {y : Nat → Option Bool} {o : Oper} {a : Act} {w : World} {K : Act → World → Prop} {Q : Exit → Act → World → Prop} {E : Prop} (hg : o.guard = none) (m x : Operand) (hop : o.op = Op.call { callee := Callee.builtin Builtin.delete, args := #[m, x], argTypes := #[68, 3] }) (b n : Nat) (D : DataW Unit) (hm : a.eval m = .map (some b))
  (hown : w.ownsMap Tryz.prog 3 ptrE b n D) (z : Int) (hz : In1 z) (hx : a.eval x = .int .i64 z)
  (k : ∀ w', w'.ownsMap Tryz.prog 3 ptrE b n (D.del (.int .i64 z)) → w.grownBy w' (some b) → K (a.put o.dst (.tuple #[])) w') : if Region.wanted o y = true then Oper.wp Tryz.prog o a w K Q else E := by
 have hw : Region.wanted o y = true := by simp [Region.wanted, hg]
 rw [if_pos hw]
 obtain ⟨w', hrun, r1, r2⟩ := hown.drop keyI Tryz.underlying68 (Maps.keyOf_int_mk Tryz.underlying3 (wfI hz)) o.type
 unfold Oper.wp
 simp [execOp, hop, resolve, invoke, builtin, hm, hx, hrun, Result.andThen]
 exact k w' r1 r2.grown
theorem eql_map (mb : Nat) (u : World) : Sem.run Tryz.prog (binOp .eql 68 (.map (some mb)) (.map none)) u = .ok (.bool false) u := by kernel_rfl
theorem build_ses (u : World) : Sem.run Tryz.prog (Instr.build 134 #[(0, .agg (encC begL false).toArray), (1, .agg (memC freL false).toArray)]) u = .ok (.agg (sesC fsh).toArray) u := by kernel_rfl
theorem yields_ses {a : Act} {op : Oper} {x y : Operand} {w : World} {E M SC : List Value} (ho : op.op = .build 134 #[(0, x), (1, y)]) (hx : a.eval x = .agg E.toArray) (hy : a.eval y = .agg M.toArray) (hr : ∀ u, Sem.run Tryz.prog (Instr.build 134 #[(0, .agg E.toArray), (1, .agg M.toArray)]) u = .ok (.agg SC.toArray) u) :
  (execOp a.eval op).run Tryz.prog w = .ok (.value (.agg SC.toArray)) w := by
 have e : (#[(0, x), (1, y)] : Array (Nat × Operand)).map (fun (i, x) => (i, a.eval x)) = #[(0, .agg E.toArray), (1, .agg M.toArray)] := by simp [hx, hy]
 unfold execOp
 simp only [ho, e, Sem.run_bind, hr, Result.andThen_ok, Sem.run_pure]
def OpE (w : World) (d : Nat) (F : Int → Option Ses) (n : Nat) (Z : Nat → Prop) (v : Int) (x : Ending) (w' : World) : Prop :=
 x = .returned (.int .i64 (opnC (F v) n v)) ∧ ∃ (Z' : Nat → Prop) (r : Option Nat), DkW w' d (if opnC (F v) n v = 0 then putS F v (some fsh) else F) (if opnC (F v) n v = 0 then n + 1 else n) Z' ∧ (∀ b, Z' b → Z b ∨ w.heap.size ≤ b) ∧ w.grownBy w' r ∧ ∀ b, r = some b → Z b
theorem opE_no {w : World} {d : Nat} {F : Int → Option Ses} {n : Nat} {Z : Nat → Prop} {v : Int} {en : Int} (h : DkW w d F n Z) (he : opnC (F v) n v = en) (hn : en ≠ 0) : OpE w d F n Z v (.returned (.int .i64 en)) w := by
 refine ⟨by rw [he], Z, none, ?_, fun b hb => .inl hb, grown_refl _ _, fun b e => by cases e⟩
 rw [if_neg (by rw [he]; exact hn), if_neg (by rw [he]; exact hn)]
 exact h
theorem mk_map (u : World) : Sem.run Tryz.prog (Instr.makeMap 68 none) u = .ok (.map (some u.heap.size)) (u.alloc (.map #[] 0)) := @run_makeMap Tryz.prog 68 u
theorem dk_empty (w : World) : DkI ((w.alloc (.map #[] 0)).alloc (.cells #[.map (some w.heap.size)] 70)) (w.heap.size + 1) (fun _ => none) 0 (fun b => b = w.heap.size ∨ b = w.heap.size + 1) w.heap.size (.map []) (fun _ => 0) := by
 refine ⟨?_, (World.ownsMap_made w Tryz.prog 3 ptrE).alloc _, rfl, fun v => rfl, fun v => rfl, fun v s h => (by cases h), fun u v s t h => (by cases h), .inr rfl, .inl rfl, fun b hb => ?_, fun v s h => (by cases h)⟩
 ·have := BlkV.new (w.alloc (.map #[] 0)) 70 [.map (some w.heap.size)]
  simpa using this
 ·simp
  omega
theorem dkNew_any (w : World) : Calls Tryz.prog 7 #[] w fun x w' => ∃ (d : Nat) (Z : Nat → Prop), x = .returned (.pointer (some ⟨d, 0, none⟩)) ∧ DkW w' d (fun _ => none) 0 Z ∧ (∀ b, Z b → w.heap.size ≤ b) ∧ w.grownBy w' none := by
 have F := hide (dk_empty w)
 have G := hide (grown_none (grown_alloc w (.map #[] 0) none) (grown_alloc _ (.cells #[.map (some w.heap.size)] 70) none))
 have hm := mk_map
 go_enter Tryz.func7, Tryz.ntmps7
 go_wp2_with fail
 go_ret
 exact ⟨w.heap.size + 1, _, by simp, ⟨_, _, _, F.out⟩, fun b hb => by omega, G.out⟩
theorem dkMany_any (d : Nat) (F : Int → Option Ses) (n : Nat) (Z : Nat → Prop) (w : World) (h : DkW w d F n Z) : Calls Tryz.prog 12 #[.pointer (some ⟨d, 0, none⟩)] w fun x w' => x = .returned (.int .i64 n) ∧ w' = w := by
 obtain ⟨mb, D, bl, i⟩ := h
 have dc := i.dk.cell 0
 have hl := i.len
 simp at dc
 clear i
 go_enter Tryz.func12, Tryz.ntmps12
 go_wp2_with fail
 go_ret
 exact ⟨rfl, rfl⟩
set_option maxRecDepth 100000 in
theorem dkOpen_any (W : World) (pb : CBg 17 W) (pf : CFr 18 W) (d : Nat) (F : Int → Option Ses) (n : Nat) (Z : Nat → Prop) (v : Int) (hv : In1 v) (w : World) (gw : W.grownBy w none) (h : DkW w d F n Z) :
  Calls Tryz.prog 41 #[.pointer (some ⟨d, 0, none⟩), .int .i64 v] w (OpE w d F n Z v) := by
 obtain ⟨hv1, hv2⟩ := hv
 by_cases h0 : v < 0
 ·have FF := hide (opE_no (v := v) (en := 2) h (if_pos h0) (by omega))
  generalize OpE w d F n Z v = T at *
  clear h pb pf
  go_enter Tryz.func41, Tryz.ntmps41
  go_wp2_with fail
  exact FF.out
 ·obtain ⟨mb, D, bl, i⟩ := h
  have dc := i.dk.cell 0
  simp at dc
  have hl := i.len
  have hlk := i.look (v := v) ⟨hv1, hv2⟩
  rcases hF : F v with _ | s
  ·unfold ptV at hlk
   rw [hF] at hlk
   by_cases h3 : 32 ≤ n
   ·have FF := hide (opE_no (F := F) (v := v) (en := 7) ⟨mb, D, bl, i⟩ (by unfold opnC; rw [if_neg h0, hF, if_neg (by simp), if_pos h3]) (by omega))
    have hn : (32 : Int) ≤ n := by omega
    generalize OpE w d F n Z v = T at *
    clear i pb pf h3 hF
    go_enter Tryz.func41, Tryz.ntmps41
    go_wp2_with fail
    exact FF.out
   ·have ec : opnC (F v) n v = 0 := by unfold opnC; rw [if_neg h0, hF, if_neg (by simp), if_neg h3]
    have FI := hide (fun w1 w' B g hB hb g' N hm => i.more (v := v) (w1 := w1) (w' := w') (B := B) (N := N) hF g hB hb g' hm)
    have MP := hide i.mp
    have ZM := hide i.zm
    have FO := hide (fun (w1 w' : World) (B : Nat) (g : w.grownBy w1 none) (hB : w.heap.size ≤ B) (hb : BlkV w1 B 134 (sesC fsh)) (g' : w1.grownBy w' (some mb)) (hm : w'.ownsMap Tryz.prog 3 ptrE mb (n + 1) (D.put (.int .i64 v) (.lit (.int .i64 B)))) =>
     show OpE w d F n Z v (.returned (.int .i64 0)) w' from ⟨by rw [ec], fun b => Z b ∨ b = B, some mb, by rw [if_pos ec, if_pos ec]; exact ⟨_, _, _, FI.out w1 w' B g hB hb g' (n + 1) hm⟩, fun b hb => by rcases hb with q | q; exact .inl q; exact .inr (by omega), grown_trans g g' (some mb) (fun i e => by cases e) (fun i e _ => e), fun b e => by cases e; exact ZM.out⟩)
    have DB := hide i.dk
    have DM := hide (show d ≠ mb from fun e => by
     obtain ⟨es, cl, hbm, _⟩ := i.mp
     have := i.dk
     unfold BlkV at this
     rw [e, hbm] at this
     cases this)
    have hn : ¬ (32 : Int) ≤ n := by omega
    have RB := hide build_ses
    have qm := eql_map mb
    have PB := hide pb
    have PF := hide pf
    have GW := hide gw
    have hvv : In1 v := ⟨hv1, hv2⟩
    unfold CBg AnsC encV at PB
    unfold CFr AnsC memV at PF
    clear FI i pb pf gw hF ec ZM
    generalize OpE w d F n Z v = T at *
    generalize sesC fsh = SC at *
    generalize begL = BL at *
    generalize freL = FL at *
    go_enter Tryz.func41, Tryz.ntmps41
    go_upto_region 9 with fail
    refine wp_region_held_drew (S := fun u => BlkV u d 70 [.map (some mb)]) (by kernel_rfl) (DB.out.keep (gw_start w)) (fun hHeld => ?_)
    refine wpAnyH_take (i := 0) (v := ?vop0) rfl (by kernel_rfl) (by kernel_rfl) (by kernel_rfl) (fun _ _ _ h => h) (Or.inl ⟨by rfl, ?yop0⟩) hHeld ?rop0
    case yop0 => (intro w' hSw; go_simp; (try with_reducible rfl))
    (try simp only [Act.put, sL])
    refine wpAnyH_take (i := 1) (v := ?vop1) rfl (by kernel_rfl) (by kernel_rfl) (by kernel_rfl) (fun _ _ _ h => h) (Or.inl ⟨by rfl, ?yop1⟩) hHeld ?rop1
    case yop1 => (intro w' hSw; go_simp; (try with_reducible rfl))
    (try simp only [Act.put, sL])
    refine wpAnyH_take (i := 2) (v := ?vop2) rfl (by kernel_rfl) (by kernel_rfl) (by kernel_rfl) (fun _ _ _ h => h) (Or.inl ⟨by rfl, ?yop2⟩) hHeld ?rop2
    case yop2 => (intro w' hSw; go_simp; (try with_reducible rfl))
    (try simp only [Act.put, sL])
    refine wpAnyH_take (i := 3) (v := .map (some mb)) rfl (by kernel_rfl) (by kernel_rfl) (by kernel_rfl) (fun _ _ _ h => h) (Or.inl ⟨by rfl, ?yop3⟩) hHeld ?rop3
    case yop3 => (intro w' hSw; have cc := BlkV.cell hSw 0; simp at cc; go_simp; (try with_reducible rfl))
    (try simp only [Act.put, sL])
    refine wpAnyH_take (i := 4) (v := ?vop4) rfl (by kernel_rfl) (by kernel_rfl) (by kernel_rfl) (fun _ _ _ h => h) (Or.inl ⟨by rfl, ?yop4⟩) hHeld ?rop4
    case yop4 => (intro w' hSw; go_simp; (try with_reducible rfl))
    (try simp only [Act.put, sL])
    refine wpAnyH_ready (rs := [5]) (by kernel_rfl) (by simp) (AllReadyH.cons rfl (fun K hK => ?_) AllReadyH.nil)
    (try simp only [Act.put, sL])
    go_simp
    refine (PB.out _ (grown_none GW.out (gw_start _))).mono ?_
    rintro x W1 ⟨rfl, g1⟩
    have G1 := hide (grown_none (gw_start w) g1)
    clear g1
    go_wp2_with fail
    refine hK.out _ _ (DB.out.keep G1.out) (fun hHeld => ?_)
    clear hK
    (try simp only [Act.put, sL])
    refine wpAnyH_ready (rs := [6]) (by kernel_rfl) (by simp) (AllReadyH.cons rfl (fun K hK => ?_) AllReadyH.nil)
    (try simp only [Act.put, sL])
    go_simp
    refine (PF.out _ (grown_none GW.out G1.out)).mono ?_
    rintro x W2 ⟨rfl, g2⟩
    have G2 := hide (grown_none G1.out g2)
    clear g2 G1
    go_wp2_with fail
    refine hK.out _ _ (DB.out.keep G2.out) (fun hHeld => ?_)
    clear hK
    (try simp only [Act.put, sL])
    refine wpAnyH_take (i := 7) (v := .agg SC.toArray) rfl (by kernel_rfl) (by kernel_rfl) (by kernel_rfl) (fun _ _ _ h => h) (Or.inl ⟨by rfl, ?yop7⟩) hHeld ?rop7
    case yop7 => (intro w' hSw; exact yields_ses rfl rfl rfl RB.out)
    (try simp only [Act.put, sL])
    refine wpAnyH_ready (rs := [8]) (by kernel_rfl) (by simp) (AllReadyH.cons rfl (fun K hK => ?_) AllReadyH.nil)
    (try simp only [Act.put, sL])
    go_simp
    go_wp2_with fail
    refine hK.out _ _ (DB.out.keep (grown_none G2.out (grown_alloc W2 (.cells SC.toArray 134) none))) (fun hHeld => ?_)
    clear hK
    (try simp only [Act.put, sL])
    have G3 := hide (grown_none G2.out (grown_alloc W2 (.cells SC.toArray 134) none))
    have S3 := hide (BlkV.new W2 134 SC)
    have NB := hide (World.grownBy.size G2.out)
    clear G2
    generalize W2.alloc (.cells SC.toArray 134) = W3 at *
    generalize W2.heap.size = B at *
    refine wpAnyH_ready (rs := [9]) (by kernel_rfl) (by simp) (AllReadyH.cons rfl (fun K hK => ?_) AllReadyH.nil)
    (try simp only [Act.put, sL])
    refine step_mapU rfl _ _ _ rfl mb n D rfl (MP.out.kept G3.out (by simp)) (by unfold maxLen; omega) v hvv rfl B rfl ?_
    intro W4 m4 g4
    have FF := hide (FO.out W3 W4 B G3.out NB.out S3.out g4 m4)
    have D4 := hide ((DB.out.keep G3.out).keepBut g4 DM.out)
    clear FO m4 g4 G3 S3 NB
    refine hK.out _ _ D4.out (fun hHeld => ?_)
    clear hK
    (try simp only [Act.put, sL])
    refine wpAnyH_done (by kernel_rfl) ?_ _
    clear hHeld D4
    go_wp2_with fail
    exact FF.out
  ·unfold ptV at hlk
   rw [hF] at hlk
   have FF := hide (opE_no (F := F) (v := v) (en := 10) ⟨mb, D, bl, i⟩ (by unfold opnC; rw [if_neg h0, hF, if_pos (by simp)]) (by omega))
   generalize OpE w d F n Z v = T at *
   clear i pb pf hF
   go_enter Tryz.func41, Tryz.ntmps41
   go_wp2_with fail
   exact FF.out
end Go.Proofs.YtdejpongekicdaaGreatDoor

/- DkD -/
namespace Go.Proofs.YtdejpongekicdaaGreatDoor
open Go.RowKit
set_option linter.unusedVariables false
set_option linter.unusedSimpArgs false
set_option maxHeartbeats 4000000
theorem shp_sl {v : Value} {l : List Int} (h : Shp v l) : ∃ a n c, v = .slice a n c := by
 rcases h with h | ⟨a, c, h⟩
 ·exact ⟨_, _, _, h⟩
 ·exact ⟨_, _, _, h⟩
def clC (c : Cl) (vs vb : Value) : List Value := [.int .i64 c.k, .int .i64 c.v, .bool c.r, vs, vb]
structure AsS (w : World) (c : Cl) (vs vb : Value) (W0 : World) : Prop where
 cl : BlkV W0 w.heap.size 37 (clC c vs vb)
 an : BlkV W0 (w.heap.size + 1) 34 (ansC 0 0 (.slice none 0 0) (.slice none 0 0))
 gr : w.grownBy W0 none
theorem AsS.new (w : World) (c : Cl) (vs vb : Value) : AsS w c vs vb ((w.alloc (.cells (clC c vs vb).toArray 37)).alloc (.cells (ansC 0 0 (.slice none 0 0) (.slice none 0 0)).toArray 34)) :=
 ⟨(BlkV.new w 37 (clC c vs vb)).keep (grown_alloc _ _ none), by have := ans_new (w.alloc (.cells (clC c vs vb).toArray 37)) 0 0 (.slice none 0 0) (.slice none 0 0); simpa using this, grown_none (grown_alloc w _ none) (grown_alloc _ _ none)⟩
theorem AsS.keep {w : World} {c : Cl} {vs vb : Value} {W0 W1 : World} (h : AsS w c vs vb W0) (g : W0.grownBy W1 none) : AsS w c vs vb W1 := ⟨h.cl.keep g, h.an.keep g, grown_none h.gr g⟩
theorem AsS.size {w : World} {c : Cl} {vs vb : Value} {W0 : World} (h : AsS w c vs vb W0) : w.heap.size + 1 < W0.heap.size := h.an.lt
theorem dkE_turn {w : World} {d : Nat} {F : Int → Option Ses} {n : Nat} {Z : Nat → Prop} {mb : Nat} {D : DataW Unit} {bl : Int → Nat} (i : DkI w d F n Z mb D bl) {c : Cl} {s s' : Ses} (hF : F c.v = some s) (hk : 2 ≤ c.k ∧ c.k ≤ 4) (ok : SesOk s') (hX : ssX s c = some s')
  {vs vb : Value} {W0 W1 : World} (h : AsS w c vs vb W0) {a : Option Addr} {m k : Nat} {a' : Option Addr} {m' k' : Nat} (hB : OwnB W0.heap.size W1 (.slice a m k) (ssW s c)) (hL : Own W0.heap.size W1 (.slice a' m' k') (ssZ s c)) (hb : BlkV W1 (bl c.v) 134 (sesC s')) (g : W0.grownBy W1 (some (bl c.v))) :
  BlkV (putV W1 (w.heap.size + 1) 0 (ansC (ssY s c) 0 (.slice a m k) (.slice a' m' k'))) (w.heap.size + 1) 34 (ansC (ssY s c) 0 (.slice a m k) (.slice a' m' k')) ∧ BlkV W1 (w.heap.size + 1) 34 (ansC 0 0 (.slice none 0 0) (.slice none 0 0)) ∧ DkE w d F n Z c 0 (.returned (.agg (ansC (ssY s c) 0 (.slice a m k) (.slice a' m' k')).toArray)) (putV W1 (w.heap.size + 1) 0 (ansC (ssY s c) 0 (.slice a m k) (.slice a' m' k'))) := by
 have hz := (i.bk c.v s hF).2
 have hlt := i.zl _ hz
 have hs := h.size
 have A1 := h.an.keepBut g (by omega)
 have P := ansP (en' := ssY s c) (v' := 0) (vb' := .slice a m k) (vl' := .slice a' m' k') A1
 have g2 := grown_but h.gr g P.2 (by omega)
 have e1 : ¬ c.k = 1 := by omega
 have e2 : 2 ≤ c.k ∧ c.k ≤ 5 := by omega
 have e3 : ¬ c.k = 5 := by omega
 refine ⟨P.1, A1, .slice a m k, .slice a' m' k', ?_, ?_, ?_, Z, some (bl c.v), ⟨mb, D, bl, ?_⟩, fun b hb => .inl hb, g2, fun b e => by cases e; exact hz⟩
 ·unfold dkC
  rw [if_neg e1, if_pos e2, hF]
  rfl
 ·unfold dkB
  rw [if_pos e2, hF]
  exact (hB.base (b' := w.heap.size + 2) (by omega)).keepLt P.2 (by omega) |>.base (by omega)
 ·unfold dkL
  rw [if_pos e2, hF]
  exact (hL.base (b' := w.heap.size + 2) (by omega)).keepLt P.2 (by omega) |>.base (by omega)
 ·have t := i.turn hF ok g2 (hb.keepBut P.2 (by omega))
  have f1 : dkF F n c = putS F c.v (some s') := by
   unfold dkF dkO
   rw [if_neg e1, if_pos e2, hF]
   simp only [hX]
  have f2 : dkN (F c.v) n c = n := by
   unfold dkN
   rw [if_neg e1, if_neg e3]
  rw [f1, f2]
  exact t
theorem dkE_same {w : World} {d : Nat} {F : Int → Option Ses} {n : Nat} {Z : Nat → Prop} (i : DkW w d F n Z) {c : Cl} {en : Int} (hC : dkC (F c.v) n c = en) (hB : dkB (F c.v) c = []) (hL : dkL (F c.v) c = []) (hF : dkF F n c = F) (hN : dkN (F c.v) n c = n)
  {A : Nat} {W0 : World} (hA : BlkV W0 A 34 (ansC 0 0 (.slice none 0 0) (.slice none 0 0))) (g : w.grownBy W0 none) (hw : w.heap.size ≤ A) :
  BlkV (putV W0 A 0 (ansC en 0 (.slice none 0 0) (.slice none 0 0))) A 34 (ansC en 0 (.slice none 0 0) (.slice none 0 0)) ∧ DkE w d F n Z c 0 (.returned (.agg (ansC en 0 (.slice none 0 0) (.slice none 0 0)).toArray)) (putV W0 A 0 (ansC en 0 (.slice none 0 0) (.slice none 0 0))) := by
 have P := ansP (en' := en) (v' := 0) (vb' := (.slice none 0 0)) (vl' := (.slice none 0 0)) hA
 have g2 := grown_own g P.2 hw
 refine ⟨P.1, (.slice none 0 0), (.slice none 0 0), by rw [hC]; rfl, by rw [hB]; exact OwnB_nil _ _, by rw [hL]; exact Own_nil _ _, Z, none, ?_, fun b hb => .inl hb, g2, fun b e => by cases e⟩
 rw [hF, hN]
 exact i.keep g2
theorem dkE_less {w : World} {d : Nat} {F : Int → Option Ses} {n : Nat} {Z : Nat → Prop} {mb : Nat} {D : DataW Unit} {bl : Int → Nat} (i : DkI w d F n Z mb D bl) {c : Cl} {s : Ses} (hF : F c.v = some s) (hk : c.k = 5) {vs vb : Value} {W0 W1 : World} (h : AsS w c vs vb W0) (hm : W1.ownsMap Tryz.prog 3 ptrE mb n (D.del (.int .i64 c.v))) (g : W0.grownBy W1 (some mb)) :
  BlkV (putV W1 (w.heap.size + 1) 0 (ansC 0 0 (.slice none 0 0) (.slice none 0 0))) (w.heap.size + 1) 34 (ansC 0 0 (.slice none 0 0) (.slice none 0 0)) ∧ BlkV W1 (w.heap.size + 1) 34 (ansC 0 0 (.slice none 0 0) (.slice none 0 0)) ∧ DkE w d F n Z c 0 (.returned (.agg (ansC 0 0 (.slice none 0 0) (.slice none 0 0)).toArray)) (putV W1 (w.heap.size + 1) 0 (ansC 0 0 (.slice none 0 0) (.slice none 0 0))) := by
 have hlt := i.zl _ i.zm
 have hs := h.size
 have A1 := h.an.keepBut g (by omega)
 have P := ansP (en' := 0) (v' := 0) (vb' := (.slice none 0 0)) (vl' := (.slice none 0 0)) A1
 have g2 := grown_but h.gr g P.2 (by omega)
 refine ⟨P.1, A1, (.slice none 0 0), (.slice none 0 0), ?_, ?_, ?_, Z, some mb, ⟨mb, D.del (.int .i64 c.v), bl, ?_⟩, fun b hb => .inl hb, g2, fun b e => by cases e; exact i.zm⟩
 ·unfold dkC ssY
  rw [if_neg (by omega), if_pos (by omega), hF]
  simp only [hk]
  rfl
 ·unfold dkB ssW
  rw [if_pos (by omega), hF]
  simp only [hk]
  exact OwnB_nil _ _
 ·unfold dkL ssZ
  rw [if_pos (by omega), hF]
  simp only [hk]
  exact Own_nil _ _
 ·have t := i.less hF g2 (hm.kept P.2 (by simp; omega))
  have f1 : dkF F n c = putS F c.v none := by
   unfold dkF dkO ssX
   rw [if_neg (by omega), if_pos (by omega), hF]
   simp only [hk]
   rfl
  have f2 : dkN (F c.v) n c = n - 1 := by
   unfold dkN
   rw [if_neg (by omega), if_pos hk, hF]
  rw [f1, f2]
  exact t
set_option maxRecDepth 100000 in
theorem dkAsked_none (d : Nat) (F : Int → Option Ses) (n : Nat) (Z : Nat → Prop) (mb : Nat) (D : DataW Unit) (bl : Int → Nat) (c : Cl) (a1 : Option Addr) (n1 c1 : Nat) (a2 : Option Addr) (n2 c2 : Nat) (w : World) (i : DkI w d F n Z mb D bl) (hv : In1 c.v) (hF : F c.v = none) (hk : 2 ≤ c.k ∧ c.k ≤ 5) : Calls Tryz.prog 42 #[.pointer (some ⟨d, 0, none⟩), clV c (.slice a1 n1 c1) (.slice a2 n2 c2)] w (DkE w d F n Z c 0) := by
 have hz := zAns
 have AS := hide (AsS.new w c (.slice a1 n1 c1) (.slice a2 n2 c2))
 have DB0 := hide i.dk
 have LK0 := hide (fun u (g : w.grownBy u none) => by have := (i.keep g).look hv; unfold ptV at this; rw [hF] at this; exact this)
 have FN := hide (fun (W0 : World) (h : AsS w c (.slice a1 n1 c1) (.slice a2 n2 c2) W0) => dkE_same (c := c) (en := 6) ⟨mb, D, bl, i⟩ (by unfold dkC; rw [if_neg (by omega), if_pos hk, hF]) (by unfold dkB; rw [if_pos hk, hF]) (by unfold dkL; rw [if_pos hk, hF]) (by unfold dkF dkO; rw [if_neg (by omega), if_pos hk]; have := putS_self F c.v; rw [hF] at this ⊢; exact this) (by unfold dkN; rw [if_neg (by omega)]; split; rw [hF]; rfl) h.an h.gr (by omega))
 have be := build_ansE 6
 clear i hF hk
 generalize DkE w d F n Z c 0 = T at *
 unfold clV
 go_enter Tryz.func42, Tryz.ntmps42
 go_upto_region 1 with fail
 change Code.wp _ _ _ _ ((w.alloc (.cells (clC c (.slice a1 n1 c1) (.slice a2 n2 c2)).toArray 37)).alloc (.cells (ansC 0 0 (.slice none 0 0) (.slice none 0 0)).toArray 34))
 generalize (w.alloc (.cells (clC c (.slice a1 n1 c1) (.slice a2 n2 c2)).toArray 37)).alloc (.cells (ansC 0 0 (.slice none 0 0) (.slice none 0 0)).toArray 34) = W0 at *
 have DB := hide (DB0.out.keep AS.out.gr)
 have LK := hide (fun u (g : W0.grownBy u none) => LK0.out u (grown_none AS.out.gr g))
 refine wp_region_held_drew (S := GrownW W0) (by kernel_rfl) (gw_start _) (fun hHeld => ?_)
 refine wpAnyH_take (i := 0) (v := ?vas0) rfl (by kernel_rfl) (by kernel_rfl) (by kernel_rfl) (fun _ _ _ h => h) (Or.inl ⟨by rfl, ?yas0⟩) hHeld ?ras0
 case yas0 => (intro w' hSw; go_simp; (try with_reducible rfl))
 (try simp only [Act.put, sL])
 refine wpAnyH_take (i := 1) (v := ?vas1) rfl (by kernel_rfl) (by kernel_rfl) (by kernel_rfl) (fun _ _ _ h => h) (Or.inl ⟨by rfl, ?yas1⟩) hHeld ?ras1
 case yas1 => (intro w' hSw; go_simp; (try with_reducible rfl))
 (try simp only [Act.put, sL])
 refine wpAnyH_take (i := 2) (v := ?vas2) rfl (by kernel_rfl) (by kernel_rfl) (by kernel_rfl) (fun _ _ _ h => h) (Or.inl ⟨by rfl, ?yas2⟩) hHeld ?ras2
 case yas2 => (intro w' hSw; go_simp; (try with_reducible rfl))
 (try simp only [Act.put, sL])
 refine wpAnyH_take (i := 3) (v := .map (some mb)) rfl (by kernel_rfl) (by kernel_rfl) (by kernel_rfl) (fun _ _ _ h => h) (Or.inl ⟨by rfl, ?yas3⟩) hHeld ?ras3
 case yas3 => (intro w' hSw; have cc := BlkV.cell (DB.out.keep hSw) 0; simp at cc; go_simp; (try with_reducible rfl))
 (try simp only [Act.put, sL])
 refine wpAnyH_take (i := 4) (v := ?vas4) rfl (by kernel_rfl) (by kernel_rfl) (by kernel_rfl) (fun _ _ _ h => h) (Or.inl ⟨by rfl, ?yas4⟩) hHeld ?ras4
 case yas4 => (intro w' hSw; go_simp; (try with_reducible rfl))
 (try simp only [Act.put, sL])
 refine wpAnyH_take (i := 5) (v := .int .i64 c.v) rfl (by kernel_rfl) (by kernel_rfl) (by kernel_rfl) (fun _ _ _ h => h) (Or.inl ⟨by rfl, ?yas5⟩) hHeld ?ras5
 case yas5 => (intro w' hSw; have cc := BlkV.cell ((AS.out.keep hSw).cl) 1; simp [clC] at cc; go_simp; (try with_reducible rfl))
 (try simp only [Act.put, sL])
 refine wpAnyH_take (i := 6) (v := .pointer none) rfl (by kernel_rfl) (by kernel_rfl) (by kernel_rfl) (fun _ _ _ h => h) (Or.inl ⟨by rfl, ?yas6⟩) hHeld ?ras6
 case yas6 => (intro w' hSw; have cc := LK.out _ hSw; go_simp; (try simp only [cc]); (try with_reducible rfl))
 (try simp only [Act.put, sL])
 refine wpAnyH_take (i := 7) (v := ?vas7) rfl (by kernel_rfl) (by kernel_rfl) (by kernel_rfl) (fun _ _ _ h => h) (Or.inl ⟨by rfl, ?yas7⟩) hHeld ?ras7
 case yas7 => (intro w' hSw; go_simp; (try with_reducible rfl))
 (try simp only [Act.put, sL])
 refine wpAnyH_done (by kernel_rfl) ?_ _
 have AS1 := hide (AS.out.keep (gw_start W0))
 clear hHeld AS DB LK DB0 LK0
 generalize W0.drew = W1 at *
 have FI := FN.out _ AS1.out
 have FF := hide FI.2
 have hlv := loadA FI.1
 have AA := hide AS1.out.an
 have O1 := hide (ansC_one 6 0 none 0 0 none 0 0)
 clear FI FN AS1
 go_wp2_with (first | refine wpList_store_v rfl 34 _ _ rfl (w.heap.size + 1) 0 34 (ansC 0 0 (.slice none 0 0) (.slice none 0 0)) (ansC 6 0 (.slice none 0 0) (.slice none 0 0)) rfl rfl AA.out (by simp [ansC_len]) size4a O1.out ?_)
 refine bodyPost_ret (v := .agg (ansC 6 0 (.slice none 0 0) (.slice none 0 0)).toArray) ?_ rfl FF.out
 simp [results, Tryz.results42, asAddr, Act.put, hlv]
set_option maxRecDepth 100000 in
theorem dkAsked_enc (W : World) (pc : CEn 20 W) (d : Nat) (F : Int → Option Ses) (n : Nat) (Z : Nat → Prop) (mb : Nat) (D : DataW Unit) (bl : Int → Nat) (c : Cl) (a1 : Option Addr) (n1 c1 : Nat) (a2 : Option Addr) (n2 c2 : Nat) (w : World) (i : DkI w d F n Z mb D bl) (s : Ses) (gw : W.grownBy w none) (hc : ClOk w c (.slice a1 n1 c1) (.slice a2 n2 c2)) (hF : F c.v = some s) (hk : c.k = 2) : Calls Tryz.prog 42 #[.pointer (some ⟨d, 0, none⟩), clV c (.slice a1 n1 c1) (.slice a2 n2 c2)] w (DkE w d F n Z c 0) := by
 have hv := hc.hv
 have hz := zAns
 have AS := hide (AsS.new w c (.slice a1 n1 c1) (.slice a2 n2 c2))
 have DB0 := hide i.dk
 have LK0 := hide (fun u (g : w.grownBy u none) => by have := (i.keep g).look hv; unfold ptV at this; rw [hF] at this; exact this)
 have hk3 : 2 ≤ c.k ∧ c.k ≤ 4 := by omega
 have FN := hide (fun (W0 W1 : World) (h : AsS w c (.slice a1 n1 c1) (.slice a2 n2 c2) W0) a m k a' m' k' hB hL hb g => dkE_turn i hF hk3 ((fun q => ssE_ok q c.l c.r) (i.ok c.v s hF)) (by unfold ssX; simp [hk]) (W1 := W1) h (a := a) (m := m) (k := k) (a' := a') (m' := m') (k' := k') hB hL hb g)
 have CA := hide (fun (W0 : World) (h : AsS w c (.slice a1 n1 c1) (.slice a2 n2 c2) W0) => dkEncoded_any W pc (bl c.v) s (i.ok c.v s hF) (.slice a1 n1 c1) c.l c.r W0 (grown_none gw h.gr) ((i.keep h.gr).bk c.v s hF).1 (Ints_keep hc.il h.gr) hc.sl hc.ll hc.nl)
 have E0 : ssY s c = encE s.e c.l := by unfold ssY; simp [hk]
 have E1 : ssW s c = encB s.e c.l c.r := by unfold ssW; simp [hk]
 have E2 : ssZ s c = encL s.e c.l c.r := by unfold ssZ; simp [hk]
 unfold SsE at CA
 rw [← E0, ← E1, ← E2] at CA
 have HK := hide hk
 clear i hc hF E0 E1 E2 hk3 gw hk
 generalize DkE w d F n Z c 0 = T at *
 unfold clV
 go_enter Tryz.func42, Tryz.ntmps42
 go_upto_region 1 with fail
 change Code.wp _ _ _ _ ((w.alloc (.cells (clC c (.slice a1 n1 c1) (.slice a2 n2 c2)).toArray 37)).alloc (.cells (ansC 0 0 (.slice none 0 0) (.slice none 0 0)).toArray 34))
 generalize (w.alloc (.cells (clC c (.slice a1 n1 c1) (.slice a2 n2 c2)).toArray 37)).alloc (.cells (ansC 0 0 (.slice none 0 0) (.slice none 0 0)).toArray 34) = W0 at *
 have DB := hide (DB0.out.keep AS.out.gr)
 have LK := hide (fun u (g : W0.grownBy u none) => LK0.out u (grown_none AS.out.gr g))
 refine wp_region_held_drew (S := GrownW W0) (by kernel_rfl) (gw_start _) (fun hHeld => ?_)
 refine wpAnyH_take (i := 0) (v := ?vas0) rfl (by kernel_rfl) (by kernel_rfl) (by kernel_rfl) (fun _ _ _ h => h) (Or.inl ⟨by rfl, ?yas0⟩) hHeld ?ras0
 case yas0 => (intro w' hSw; go_simp; (try with_reducible rfl))
 (try simp only [Act.put, sL])
 refine wpAnyH_take (i := 1) (v := ?vas1) rfl (by kernel_rfl) (by kernel_rfl) (by kernel_rfl) (fun _ _ _ h => h) (Or.inl ⟨by rfl, ?yas1⟩) hHeld ?ras1
 case yas1 => (intro w' hSw; go_simp; (try with_reducible rfl))
 (try simp only [Act.put, sL])
 refine wpAnyH_take (i := 2) (v := ?vas2) rfl (by kernel_rfl) (by kernel_rfl) (by kernel_rfl) (fun _ _ _ h => h) (Or.inl ⟨by rfl, ?yas2⟩) hHeld ?ras2
 case yas2 => (intro w' hSw; go_simp; (try with_reducible rfl))
 (try simp only [Act.put, sL])
 refine wpAnyH_take (i := 3) (v := .map (some mb)) rfl (by kernel_rfl) (by kernel_rfl) (by kernel_rfl) (fun _ _ _ h => h) (Or.inl ⟨by rfl, ?yas3⟩) hHeld ?ras3
 case yas3 => (intro w' hSw; have cc := BlkV.cell (DB.out.keep hSw) 0; simp at cc; go_simp; (try with_reducible rfl))
 (try simp only [Act.put, sL])
 refine wpAnyH_take (i := 4) (v := ?vas4) rfl (by kernel_rfl) (by kernel_rfl) (by kernel_rfl) (fun _ _ _ h => h) (Or.inl ⟨by rfl, ?yas4⟩) hHeld ?ras4
 case yas4 => (intro w' hSw; go_simp; (try with_reducible rfl))
 (try simp only [Act.put, sL])
 refine wpAnyH_take (i := 5) (v := .int .i64 c.v) rfl (by kernel_rfl) (by kernel_rfl) (by kernel_rfl) (fun _ _ _ h => h) (Or.inl ⟨by rfl, ?yas5⟩) hHeld ?ras5
 case yas5 => (intro w' hSw; have cc := BlkV.cell ((AS.out.keep hSw).cl) 1; simp [clC] at cc; go_simp; (try with_reducible rfl))
 (try simp only [Act.put, sL])
 refine wpAnyH_take (i := 6) (v := .pointer (some ⟨bl c.v, 0, none⟩)) rfl (by kernel_rfl) (by kernel_rfl) (by kernel_rfl) (fun _ _ _ h => h) (Or.inl ⟨by rfl, ?yas6⟩) hHeld ?ras6
 case yas6 => (intro w' hSw; have cc := LK.out _ hSw; go_simp; (try simp only [cc]); (try with_reducible rfl))
 (try simp only [Act.put, sL])
 refine wpAnyH_take (i := 7) (v := ?vas7) rfl (by kernel_rfl) (by kernel_rfl) (by kernel_rfl) (fun _ _ _ h => h) (Or.inl ⟨by rfl, ?yas7⟩) hHeld ?ras7
 case yas7 => (intro w' hSw; go_simp; (try with_reducible rfl))
 (try simp only [Act.put, sL])
 refine wpAnyH_done (by kernel_rfl) ?_ _
 have AS1 := hide (AS.out.keep (gw_start W0))
 clear hHeld AS DB LK DB0 LK0
 generalize W0.drew = W1 at *
 have C1 := hide (CA.out W1 AS1.out)
 have kc0 := BlkV.cell AS1.out.cl 0
 have kc2 := BlkV.cell AS1.out.cl 2
 have kc3 := BlkV.cell AS1.out.cl 3
 have kc4 := BlkV.cell AS1.out.cl 4
 simp [clC] at kc0 kc2 kc3 kc4
 rw [HK.out] at kc0
 clear CA
 generalize bl c.v = bb at *
 go_wp2_with fail
 refine C1.out.mono ?_
 rintro x W2 ⟨a, m, k, a', m', k', rfl, oB, oL, hb, g⟩
 have FI := FN.out W1 W2 AS1.out a m k a' m' k' oB oL hb g
 have FF := hide FI.2.2
 have hlv := loadA FI.1
 have AA := hide FI.2.1
 have O1 := hide (ansC_one (ssY s c) 0 a m k a' m' k')
 clear FI FN AS1 oB oL hb g C1 kc0 kc2 kc3 kc4
 generalize ssY s c = en at *
 unfold ansV
 go_wp2_with (first | refine wpList_store_v rfl 34 _ _ rfl (w.heap.size + 1) 0 34 (ansC 0 0 (.slice none 0 0) (.slice none 0 0)) (ansC en 0 (.slice a m k) (.slice a' m' k')) rfl rfl AA.out (by simp [ansC_len]) size4a O1.out ?_)
 refine bodyPost_ret (v := .agg (ansC en 0 (.slice a m k) (.slice a' m' k')).toArray) ?_ rfl FF.out
 simp [results, Tryz.results42, asAddr, Act.put, hlv]
set_option maxRecDepth 100000 in
theorem dkAsked_dec (W : World) (pd : CDe 22 W) (d : Nat) (F : Int → Option Ses) (n : Nat) (Z : Nat → Prop) (mb : Nat) (D : DataW Unit) (bl : Int → Nat) (c : Cl) (a1 : Option Addr) (n1 c1 : Nat) (a2 : Option Addr) (n2 c2 : Nat) (w : World) (i : DkI w d F n Z mb D bl) (s : Ses) (gw : W.grownBy w none) (hc : ClOk w c (.slice a1 n1 c1) (.slice a2 n2 c2)) (hF : F c.v = some s) (hk : c.k = 3) : Calls Tryz.prog 42 #[.pointer (some ⟨d, 0, none⟩), clV c (.slice a1 n1 c1) (.slice a2 n2 c2)] w (DkE w d F n Z c 0) := by
 have hv := hc.hv
 have hz := zAns
 have AS := hide (AsS.new w c (.slice a1 n1 c1) (.slice a2 n2 c2))
 have DB0 := hide i.dk
 have LK0 := hide (fun u (g : w.grownBy u none) => by have := (i.keep g).look hv; unfold ptV at this; rw [hF] at this; exact this)
 have hk3 : 2 ≤ c.k ∧ c.k ≤ 4 := by omega
 have FN := hide (fun (W0 W1 : World) (h : AsS w c (.slice a1 n1 c1) (.slice a2 n2 c2) W0) a m k a' m' k' hB hL hb g => dkE_turn i hF hk3 ((fun q => ssD_ok q c.b) (i.ok c.v s hF)) (by unfold ssX; simp [hk]) (W1 := W1) h (a := a) (m := m) (k := k) (a' := a') (m' := m') (k' := k') hB hL hb g)
 have CA := hide (fun (W0 : World) (h : AsS w c (.slice a1 n1 c1) (.slice a2 n2 c2) W0) => dkDecoded_any W pd (bl c.v) s (i.ok c.v s hF) (.slice a2 n2 c2) c.b W0 (grown_none gw h.gr) ((i.keep h.gr).bk c.v s hF).1 (Byts_keep hc.ib h.gr) hc.sb hc.bb hc.nb)
 have E0 : ssY s c = decE s.m c.b := by unfold ssY; simp [hk]
 have E1 : ssW s c = [] := by unfold ssW; simp [hk]
 have E2 : ssZ s c = decL s.m c.b := by unfold ssZ; simp [hk]
 unfold SsE at CA
 rw [← E0, ← E1, ← E2] at CA
 have HK := hide hk
 clear i hc hF E0 E1 E2 hk3 gw hk
 generalize DkE w d F n Z c 0 = T at *
 unfold clV
 go_enter Tryz.func42, Tryz.ntmps42
 go_upto_region 1 with fail
 change Code.wp _ _ _ _ ((w.alloc (.cells (clC c (.slice a1 n1 c1) (.slice a2 n2 c2)).toArray 37)).alloc (.cells (ansC 0 0 (.slice none 0 0) (.slice none 0 0)).toArray 34))
 generalize (w.alloc (.cells (clC c (.slice a1 n1 c1) (.slice a2 n2 c2)).toArray 37)).alloc (.cells (ansC 0 0 (.slice none 0 0) (.slice none 0 0)).toArray 34) = W0 at *
 have DB := hide (DB0.out.keep AS.out.gr)
 have LK := hide (fun u (g : W0.grownBy u none) => LK0.out u (grown_none AS.out.gr g))
 refine wp_region_held_drew (S := GrownW W0) (by kernel_rfl) (gw_start _) (fun hHeld => ?_)
 refine wpAnyH_take (i := 0) (v := ?vas0) rfl (by kernel_rfl) (by kernel_rfl) (by kernel_rfl) (fun _ _ _ h => h) (Or.inl ⟨by rfl, ?yas0⟩) hHeld ?ras0
 case yas0 => (intro w' hSw; go_simp; (try with_reducible rfl))
 (try simp only [Act.put, sL])
 refine wpAnyH_take (i := 1) (v := ?vas1) rfl (by kernel_rfl) (by kernel_rfl) (by kernel_rfl) (fun _ _ _ h => h) (Or.inl ⟨by rfl, ?yas1⟩) hHeld ?ras1
 case yas1 => (intro w' hSw; go_simp; (try with_reducible rfl))
 (try simp only [Act.put, sL])
 refine wpAnyH_take (i := 2) (v := ?vas2) rfl (by kernel_rfl) (by kernel_rfl) (by kernel_rfl) (fun _ _ _ h => h) (Or.inl ⟨by rfl, ?yas2⟩) hHeld ?ras2
 case yas2 => (intro w' hSw; go_simp; (try with_reducible rfl))
 (try simp only [Act.put, sL])
 refine wpAnyH_take (i := 3) (v := .map (some mb)) rfl (by kernel_rfl) (by kernel_rfl) (by kernel_rfl) (fun _ _ _ h => h) (Or.inl ⟨by rfl, ?yas3⟩) hHeld ?ras3
 case yas3 => (intro w' hSw; have cc := BlkV.cell (DB.out.keep hSw) 0; simp at cc; go_simp; (try with_reducible rfl))
 (try simp only [Act.put, sL])
 refine wpAnyH_take (i := 4) (v := ?vas4) rfl (by kernel_rfl) (by kernel_rfl) (by kernel_rfl) (fun _ _ _ h => h) (Or.inl ⟨by rfl, ?yas4⟩) hHeld ?ras4
 case yas4 => (intro w' hSw; go_simp; (try with_reducible rfl))
 (try simp only [Act.put, sL])
 refine wpAnyH_take (i := 5) (v := .int .i64 c.v) rfl (by kernel_rfl) (by kernel_rfl) (by kernel_rfl) (fun _ _ _ h => h) (Or.inl ⟨by rfl, ?yas5⟩) hHeld ?ras5
 case yas5 => (intro w' hSw; have cc := BlkV.cell ((AS.out.keep hSw).cl) 1; simp [clC] at cc; go_simp; (try with_reducible rfl))
 (try simp only [Act.put, sL])
 refine wpAnyH_take (i := 6) (v := .pointer (some ⟨bl c.v, 0, none⟩)) rfl (by kernel_rfl) (by kernel_rfl) (by kernel_rfl) (fun _ _ _ h => h) (Or.inl ⟨by rfl, ?yas6⟩) hHeld ?ras6
 case yas6 => (intro w' hSw; have cc := LK.out _ hSw; go_simp; (try simp only [cc]); (try with_reducible rfl))
 (try simp only [Act.put, sL])
 refine wpAnyH_take (i := 7) (v := ?vas7) rfl (by kernel_rfl) (by kernel_rfl) (by kernel_rfl) (fun _ _ _ h => h) (Or.inl ⟨by rfl, ?yas7⟩) hHeld ?ras7
 case yas7 => (intro w' hSw; go_simp; (try with_reducible rfl))
 (try simp only [Act.put, sL])
 refine wpAnyH_done (by kernel_rfl) ?_ _
 have AS1 := hide (AS.out.keep (gw_start W0))
 clear hHeld AS DB LK DB0 LK0
 generalize W0.drew = W1 at *
 have C1 := hide (CA.out W1 AS1.out)
 have kc0 := BlkV.cell AS1.out.cl 0
 have kc2 := BlkV.cell AS1.out.cl 2
 have kc3 := BlkV.cell AS1.out.cl 3
 have kc4 := BlkV.cell AS1.out.cl 4
 simp [clC] at kc0 kc2 kc3 kc4
 rw [HK.out] at kc0
 clear CA
 generalize bl c.v = bb at *
 go_wp2_with fail
 refine C1.out.mono ?_
 rintro x W2 ⟨a, m, k, a', m', k', rfl, oB, oL, hb, g⟩
 have FI := FN.out W1 W2 AS1.out a m k a' m' k' oB oL hb g
 have FF := hide FI.2.2
 have hlv := loadA FI.1
 have AA := hide FI.2.1
 have O1 := hide (ansC_one (ssY s c) 0 a m k a' m' k')
 clear FI FN AS1 oB oL hb g C1 kc0 kc2 kc3 kc4
 generalize ssY s c = en at *
 unfold ansV
 go_wp2_with (first | refine wpList_store_v rfl 34 _ _ rfl (w.heap.size + 1) 0 34 (ansC 0 0 (.slice none 0 0) (.slice none 0 0)) (ansC en 0 (.slice a m k) (.slice a' m' k')) rfl rfl AA.out (by simp [ansC_len]) size4a O1.out ?_)
 refine bodyPost_ret (v := .agg (ansC en 0 (.slice a m k) (.slice a' m' k')).toArray) ?_ rfl FF.out
 simp [results, Tryz.results42, asAddr, Act.put, hlv]
set_option maxRecDepth 100000 in
theorem dkAsked_ers (W : World) (pe : CErs 23 W) (d : Nat) (F : Int → Option Ses) (n : Nat) (Z : Nat → Prop) (mb : Nat) (D : DataW Unit) (bl : Int → Nat) (c : Cl) (a1 : Option Addr) (n1 c1 : Nat) (a2 : Option Addr) (n2 c2 : Nat) (w : World) (i : DkI w d F n Z mb D bl) (s : Ses) (gw : W.grownBy w none) (hc : ClOk w c (.slice a1 n1 c1) (.slice a2 n2 c2)) (hF : F c.v = some s) (hk : c.k = 4) : Calls Tryz.prog 42 #[.pointer (some ⟨d, 0, none⟩), clV c (.slice a1 n1 c1) (.slice a2 n2 c2)] w (DkE w d F n Z c 0) := by
 have hv := hc.hv
 have hz := zAns
 have AS := hide (AsS.new w c (.slice a1 n1 c1) (.slice a2 n2 c2))
 have DB0 := hide i.dk
 have LK0 := hide (fun u (g : w.grownBy u none) => by have := (i.keep g).look hv; unfold ptV at this; rw [hF] at this; exact this)
 have hk3 : 2 ≤ c.k ∧ c.k ≤ 4 := by omega
 have FN := hide (fun (W0 W1 : World) (h : AsS w c (.slice a1 n1 c1) (.slice a2 n2 c2) W0) a m k a' m' k' hB hL hb g => dkE_turn i hF hk3 ((fun q => ssR_ok q) (i.ok c.v s hF)) (by unfold ssX; simp [hk]) (W1 := W1) h (a := a) (m := m) (k := k) (a' := a') (m' := m') (k' := k') hB hL hb g)
 have CA := hide (fun (W0 : World) (h : AsS w c (.slice a1 n1 c1) (.slice a2 n2 c2) W0) => dkErased_any W pe (bl c.v) s (i.ok c.v s hF) W0 (grown_none gw h.gr) ((i.keep h.gr).bk c.v s hF).1)
 have E0 : ssY s c = ersE s.m := by unfold ssY; simp [hk]
 have E1 : ssW s c = [] := by unfold ssW; simp [hk]
 have E2 : ssZ s c = ersL s.m := by unfold ssZ; simp [hk]
 unfold SsE at CA
 rw [← E0, ← E1, ← E2] at CA
 have HK := hide hk
 clear i hc hF E0 E1 E2 hk3 gw hk
 generalize DkE w d F n Z c 0 = T at *
 unfold clV
 go_enter Tryz.func42, Tryz.ntmps42
 go_upto_region 1 with fail
 change Code.wp _ _ _ _ ((w.alloc (.cells (clC c (.slice a1 n1 c1) (.slice a2 n2 c2)).toArray 37)).alloc (.cells (ansC 0 0 (.slice none 0 0) (.slice none 0 0)).toArray 34))
 generalize (w.alloc (.cells (clC c (.slice a1 n1 c1) (.slice a2 n2 c2)).toArray 37)).alloc (.cells (ansC 0 0 (.slice none 0 0) (.slice none 0 0)).toArray 34) = W0 at *
 have DB := hide (DB0.out.keep AS.out.gr)
 have LK := hide (fun u (g : W0.grownBy u none) => LK0.out u (grown_none AS.out.gr g))
 refine wp_region_held_drew (S := GrownW W0) (by kernel_rfl) (gw_start _) (fun hHeld => ?_)
 refine wpAnyH_take (i := 0) (v := ?vas0) rfl (by kernel_rfl) (by kernel_rfl) (by kernel_rfl) (fun _ _ _ h => h) (Or.inl ⟨by rfl, ?yas0⟩) hHeld ?ras0
 case yas0 => (intro w' hSw; go_simp; (try with_reducible rfl))
 (try simp only [Act.put, sL])
 refine wpAnyH_take (i := 1) (v := ?vas1) rfl (by kernel_rfl) (by kernel_rfl) (by kernel_rfl) (fun _ _ _ h => h) (Or.inl ⟨by rfl, ?yas1⟩) hHeld ?ras1
 case yas1 => (intro w' hSw; go_simp; (try with_reducible rfl))
 (try simp only [Act.put, sL])
 refine wpAnyH_take (i := 2) (v := ?vas2) rfl (by kernel_rfl) (by kernel_rfl) (by kernel_rfl) (fun _ _ _ h => h) (Or.inl ⟨by rfl, ?yas2⟩) hHeld ?ras2
 case yas2 => (intro w' hSw; go_simp; (try with_reducible rfl))
 (try simp only [Act.put, sL])
 refine wpAnyH_take (i := 3) (v := .map (some mb)) rfl (by kernel_rfl) (by kernel_rfl) (by kernel_rfl) (fun _ _ _ h => h) (Or.inl ⟨by rfl, ?yas3⟩) hHeld ?ras3
 case yas3 => (intro w' hSw; have cc := BlkV.cell (DB.out.keep hSw) 0; simp at cc; go_simp; (try with_reducible rfl))
 (try simp only [Act.put, sL])
 refine wpAnyH_take (i := 4) (v := ?vas4) rfl (by kernel_rfl) (by kernel_rfl) (by kernel_rfl) (fun _ _ _ h => h) (Or.inl ⟨by rfl, ?yas4⟩) hHeld ?ras4
 case yas4 => (intro w' hSw; go_simp; (try with_reducible rfl))
 (try simp only [Act.put, sL])
 refine wpAnyH_take (i := 5) (v := .int .i64 c.v) rfl (by kernel_rfl) (by kernel_rfl) (by kernel_rfl) (fun _ _ _ h => h) (Or.inl ⟨by rfl, ?yas5⟩) hHeld ?ras5
 case yas5 => (intro w' hSw; have cc := BlkV.cell ((AS.out.keep hSw).cl) 1; simp [clC] at cc; go_simp; (try with_reducible rfl))
 (try simp only [Act.put, sL])
 refine wpAnyH_take (i := 6) (v := .pointer (some ⟨bl c.v, 0, none⟩)) rfl (by kernel_rfl) (by kernel_rfl) (by kernel_rfl) (fun _ _ _ h => h) (Or.inl ⟨by rfl, ?yas6⟩) hHeld ?ras6
 case yas6 => (intro w' hSw; have cc := LK.out _ hSw; go_simp; (try simp only [cc]); (try with_reducible rfl))
 (try simp only [Act.put, sL])
 refine wpAnyH_take (i := 7) (v := ?vas7) rfl (by kernel_rfl) (by kernel_rfl) (by kernel_rfl) (fun _ _ _ h => h) (Or.inl ⟨by rfl, ?yas7⟩) hHeld ?ras7
 case yas7 => (intro w' hSw; go_simp; (try with_reducible rfl))
 (try simp only [Act.put, sL])
 refine wpAnyH_done (by kernel_rfl) ?_ _
 have AS1 := hide (AS.out.keep (gw_start W0))
 clear hHeld AS DB LK DB0 LK0
 generalize W0.drew = W1 at *
 have C1 := hide (CA.out W1 AS1.out)
 have kc0 := BlkV.cell AS1.out.cl 0
 have kc2 := BlkV.cell AS1.out.cl 2
 have kc3 := BlkV.cell AS1.out.cl 3
 have kc4 := BlkV.cell AS1.out.cl 4
 simp [clC] at kc0 kc2 kc3 kc4
 rw [HK.out] at kc0
 clear CA
 generalize bl c.v = bb at *
 go_wp2_with fail
 refine C1.out.mono ?_
 rintro x W2 ⟨a, m, k, a', m', k', rfl, oB, oL, hb, g⟩
 have FI := FN.out W1 W2 AS1.out a m k a' m' k' oB oL hb g
 have FF := hide FI.2.2
 have hlv := loadA FI.1
 have AA := hide FI.2.1
 have O1 := hide (ansC_one (ssY s c) 0 a m k a' m' k')
 clear FI FN AS1 oB oL hb g C1 kc0 kc2 kc3 kc4
 generalize ssY s c = en at *
 unfold ansV
 go_wp2_with (first | refine wpList_store_v rfl 34 _ _ rfl (w.heap.size + 1) 0 34 (ansC 0 0 (.slice none 0 0) (.slice none 0 0)) (ansC en 0 (.slice a m k) (.slice a' m' k')) rfl rfl AA.out (by simp [ansC_len]) size4a O1.out ?_)
 refine bodyPost_ret (v := .agg (ansC en 0 (.slice a m k) (.slice a' m' k')).toArray) ?_ rfl FF.out
 simp [results, Tryz.results42, asAddr, Act.put, hlv]
set_option maxRecDepth 100000 in
theorem dkAsked_clo (d : Nat) (F : Int → Option Ses) (n : Nat) (Z : Nat → Prop) (mb : Nat) (D : DataW Unit) (bl : Int → Nat) (c : Cl) (a1 : Option Addr) (n1 c1 : Nat) (a2 : Option Addr) (n2 c2 : Nat) (w : World) (i : DkI w d F n Z mb D bl) (s : Ses) (hv : In1 c.v) (hF : F c.v = some s) (hk : c.k = 5) : Calls Tryz.prog 42 #[.pointer (some ⟨d, 0, none⟩), clV c (.slice a1 n1 c1) (.slice a2 n2 c2)] w (DkE w d F n Z c 0) := by
 have hz := zAns
 have AS := hide (AsS.new w c (.slice a1 n1 c1) (.slice a2 n2 c2))
 have DB0 := hide i.dk
 have LK0 := hide (fun u (g : w.grownBy u none) => by have := (i.keep g).look hv; unfold ptV at this; rw [hF] at this; exact this)
 have FN := hide (fun (W0 W1 : World) (h : AsS w c (.slice a1 n1 c1) (.slice a2 n2 c2) W0) hm g => dkE_less i hF hk (W1 := W1) h hm g)
 have MP := hide i.mp
 have DM : Hid (d ≠ mb ∧ w.heap.size ≠ mb) := by
  refine ⟨fun e => ?_, fun e => ?_⟩
  ·obtain ⟨es, cl, hbm, _⟩ := i.mp
   have := i.dk
   unfold BlkV at this
   rw [e, hbm] at this
   cases this
  ·have := i.zl _ i.zm
   omega
 have be := build_ans0
 have HK := hide hk
 clear i hF hk
 generalize DkE w d F n Z c 0 = T at *
 unfold clV
 go_enter Tryz.func42, Tryz.ntmps42
 go_upto_region 1 with fail
 change Code.wp _ _ _ _ ((w.alloc (.cells (clC c (.slice a1 n1 c1) (.slice a2 n2 c2)).toArray 37)).alloc (.cells (ansC 0 0 (.slice none 0 0) (.slice none 0 0)).toArray 34))
 generalize (w.alloc (.cells (clC c (.slice a1 n1 c1) (.slice a2 n2 c2)).toArray 37)).alloc (.cells (ansC 0 0 (.slice none 0 0) (.slice none 0 0)).toArray 34) = W0 at *
 have DB := hide (DB0.out.keep AS.out.gr)
 have LK := hide (fun u (g : W0.grownBy u none) => LK0.out u (grown_none AS.out.gr g))
 refine wp_region_held_drew (S := GrownW W0) (by kernel_rfl) (gw_start _) (fun hHeld => ?_)
 refine wpAnyH_take (i := 0) (v := ?vas0) rfl (by kernel_rfl) (by kernel_rfl) (by kernel_rfl) (fun _ _ _ h => h) (Or.inl ⟨by rfl, ?yas0⟩) hHeld ?ras0
 case yas0 => (intro w' hSw; go_simp; (try with_reducible rfl))
 (try simp only [Act.put, sL])
 refine wpAnyH_take (i := 1) (v := ?vas1) rfl (by kernel_rfl) (by kernel_rfl) (by kernel_rfl) (fun _ _ _ h => h) (Or.inl ⟨by rfl, ?yas1⟩) hHeld ?ras1
 case yas1 => (intro w' hSw; go_simp; (try with_reducible rfl))
 (try simp only [Act.put, sL])
 refine wpAnyH_take (i := 2) (v := ?vas2) rfl (by kernel_rfl) (by kernel_rfl) (by kernel_rfl) (fun _ _ _ h => h) (Or.inl ⟨by rfl, ?yas2⟩) hHeld ?ras2
 case yas2 => (intro w' hSw; go_simp; (try with_reducible rfl))
 (try simp only [Act.put, sL])
 refine wpAnyH_take (i := 3) (v := .map (some mb)) rfl (by kernel_rfl) (by kernel_rfl) (by kernel_rfl) (fun _ _ _ h => h) (Or.inl ⟨by rfl, ?yas3⟩) hHeld ?ras3
 case yas3 => (intro w' hSw; have cc := BlkV.cell (DB.out.keep hSw) 0; simp at cc; go_simp; (try with_reducible rfl))
 (try simp only [Act.put, sL])
 refine wpAnyH_take (i := 4) (v := ?vas4) rfl (by kernel_rfl) (by kernel_rfl) (by kernel_rfl) (fun _ _ _ h => h) (Or.inl ⟨by rfl, ?yas4⟩) hHeld ?ras4
 case yas4 => (intro w' hSw; go_simp; (try with_reducible rfl))
 (try simp only [Act.put, sL])
 refine wpAnyH_take (i := 5) (v := .int .i64 c.v) rfl (by kernel_rfl) (by kernel_rfl) (by kernel_rfl) (fun _ _ _ h => h) (Or.inl ⟨by rfl, ?yas5⟩) hHeld ?ras5
 case yas5 => (intro w' hSw; have cc := BlkV.cell ((AS.out.keep hSw).cl) 1; simp [clC] at cc; go_simp; (try with_reducible rfl))
 (try simp only [Act.put, sL])
 refine wpAnyH_take (i := 6) (v := .pointer (some ⟨bl c.v, 0, none⟩)) rfl (by kernel_rfl) (by kernel_rfl) (by kernel_rfl) (fun _ _ _ h => h) (Or.inl ⟨by rfl, ?yas6⟩) hHeld ?ras6
 case yas6 => (intro w' hSw; have cc := LK.out _ hSw; go_simp; (try simp only [cc]); (try with_reducible rfl))
 (try simp only [Act.put, sL])
 refine wpAnyH_take (i := 7) (v := ?vas7) rfl (by kernel_rfl) (by kernel_rfl) (by kernel_rfl) (fun _ _ _ h => h) (Or.inl ⟨by rfl, ?yas7⟩) hHeld ?ras7
 case yas7 => (intro w' hSw; go_simp; (try with_reducible rfl))
 (try simp only [Act.put, sL])
 refine wpAnyH_done (by kernel_rfl) ?_ _
 have AS1 := hide (AS.out.keep (gw_start W0))
 have D1 := hide (DB.out.keep (gw_start W0))
 clear hHeld AS DB LK DB0 LK0
 generalize W0.drew = W1 at *
 have kc0 := BlkV.cell AS1.out.cl 0
 simp [clC] at kc0
 rw [HK.out] at kc0
 generalize bl c.v = bb at *
 go_upto_region 11 with fail
 refine wp_region_held_drew (S := fun u => BlkV u d 70 [.map (some mb)] ∧ BlkV u w.heap.size 37 (clC c (.slice a1 n1 c1) (.slice a2 n2 c2))) (by kernel_rfl) ⟨D1.out.keep (gw_start W1), AS1.out.cl.keep (gw_start W1)⟩ (fun hHeld => ?_)
 refine wpAnyH_take (i := 0) (v := ?vdl0) rfl (by kernel_rfl) (by kernel_rfl) (by kernel_rfl) (fun _ _ _ h => h) (Or.inl ⟨by rfl, ?ydl0⟩) hHeld ?rdl0
 case ydl0 => (intro w' hSw; go_simp; (try with_reducible rfl))
 (try simp only [Act.put, sL])
 refine wpAnyH_take (i := 1) (v := ?vdl1) rfl (by kernel_rfl) (by kernel_rfl) (by kernel_rfl) (fun _ _ _ h => h) (Or.inl ⟨by rfl, ?ydl1⟩) hHeld ?rdl1
 case ydl1 => (intro w' hSw; go_simp; (try with_reducible rfl))
 (try simp only [Act.put, sL])
 refine wpAnyH_take (i := 2) (v := ?vdl2) rfl (by kernel_rfl) (by kernel_rfl) (by kernel_rfl) (fun _ _ _ h => h) (Or.inl ⟨by rfl, ?ydl2⟩) hHeld ?rdl2
 case ydl2 => (intro w' hSw; go_simp; (try with_reducible rfl))
 (try simp only [Act.put, sL])
 refine wpAnyH_take (i := 3) (v := .map (some mb)) rfl (by kernel_rfl) (by kernel_rfl) (by kernel_rfl) (fun _ _ _ h => h) (Or.inl ⟨by rfl, ?ydl3⟩) hHeld ?rdl3
 case ydl3 => (intro w' hSw; have cc := BlkV.cell hSw.1 0; simp at cc; go_simp; (try with_reducible rfl))
 (try simp only [Act.put, sL])
 refine wpAnyH_take (i := 4) (v := ?vdl4) rfl (by kernel_rfl) (by kernel_rfl) (by kernel_rfl) (fun _ _ _ h => h) (Or.inl ⟨by rfl, ?ydl4⟩) hHeld ?rdl4
 case ydl4 => (intro w' hSw; go_simp; (try with_reducible rfl))
 (try simp only [Act.put, sL])
 refine wpAnyH_take (i := 5) (v := .int .i64 c.v) rfl (by kernel_rfl) (by kernel_rfl) (by kernel_rfl) (fun _ _ _ h => h) (Or.inl ⟨by rfl, ?ydl5⟩) hHeld ?rdl5
 case ydl5 => (intro w' hSw; have cc := BlkV.cell hSw.2 1; simp [clC] at cc; go_simp; (try with_reducible rfl))
 (try simp only [Act.put, sL])
 refine wpAnyH_ready (rs := [6]) (by kernel_rfl) (by simp) (AllReadyH.cons rfl (fun K hK => ?_) AllReadyH.nil)
 (try simp only [Act.put, sL])
 refine step_del rfl _ _ rfl mb n D rfl (MP.out.kept (grown_none AS1.out.gr (gw_start W1)) (by simp)) c.v hv rfl ?_
 intro W4 m4 g4
 have FI := FN.out _ W4 (AS1.out.keep (gw_start W1)) m4 g4
 have FF := hide FI.2.2
 have hlv := loadA FI.1
 have AA := hide FI.2.1
 have D4 := hide (And.intro (hHeld.1.keepBut g4 DM.out.1) (hHeld.2.keepBut g4 DM.out.2))
 clear FI FN m4 g4
 refine hK.out _ _ D4.out (fun hHeld => ?_)
 clear hK
 (try simp only [Act.put, sL])
 refine wpAnyH_done (by kernel_rfl) ?_ _
 clear hHeld D4 kc0 AS1 D1
 have O1 := hide (ansC_one 0 0 none 0 0 none 0 0)
 go_wp2_with (first | refine wpList_store_v rfl 34 _ _ rfl (w.heap.size + 1) 0 34 (ansC 0 0 (.slice none 0 0) (.slice none 0 0)) (ansC 0 0 (.slice none 0 0) (.slice none 0 0)) rfl rfl AA.out (by simp [ansC_len]) size4a O1.out ?_)
 refine bodyPost_ret (v := .agg (ansC 0 0 (.slice none 0 0) (.slice none 0 0)).toArray) ?_ rfl FF.out
 simp [results, Tryz.results42, asAddr, Act.put, hlv]
theorem dkAsked_any (W : World) (pc : CEn 20 W) (pd : CDe 22 W) (pe : CErs 23 W) (d : Nat) (F : Int → Option Ses) (n : Nat) (Z : Nat → Prop) (c : Cl) (a1 : Option Addr) (n1 c1 : Nat) (a2 : Option Addr) (n2 c2 : Nat) (w : World) (h : DkW w d F n Z) (gw : W.grownBy w none) (hc : ClOk w c (.slice a1 n1 c1) (.slice a2 n2 c2)) (hk : 2 ≤ c.k ∧ c.k ≤ 5) : Calls Tryz.prog 42 #[.pointer (some ⟨d, 0, none⟩), clV c (.slice a1 n1 c1) (.slice a2 n2 c2)] w (DkE w d F n Z c 0) := by
 obtain ⟨mb, D, bl, i⟩ := h
 rcases hF : F c.v with _ | s
 ·exact dkAsked_none d F n Z mb D bl c a1 n1 c1 a2 n2 c2 w i hc.hv hF hk
 ·obtain e | e | e | e : c.k = 2 ∨ c.k = 3 ∨ c.k = 4 ∨ c.k = 5 := by omega
  ·exact dkAsked_enc W pc d F n Z mb D bl c a1 n1 c1 a2 n2 c2 w i s gw hc hF e
  ·exact dkAsked_dec W pd d F n Z mb D bl c a1 n1 c1 a2 n2 c2 w i s gw hc hF e
  ·exact dkAsked_ers W pe d F n Z mb D bl c a1 n1 c1 a2 n2 c2 w i s gw hc hF e
  ·exact dkAsked_clo d F n Z mb D bl c a1 n1 c1 a2 n2 c2 w i s hc.hv hF e
end Go.Proofs.YtdejpongekicdaaGreatDoor

/- DkO -/
namespace Go.Proofs.YtdejpongekicdaaGreatDoor
open Go.RowKit
set_option linter.unusedVariables false
set_option linter.unusedSimpArgs false
set_option maxHeartbeats 4000000
theorem dkE_keep {w W1 W2 : World} {d : Nat} {F : Int → Option Ses} {n : Nat} {Z : Nat → Prop} {c : Cl} {v : Int} {x : Ending} (h : DkE w d F n Z c v x W1) (g : W1.grownBy W2 none) : DkE w d F n Z c v x W2 := by
 obtain ⟨vb, vl, e, hB, hL, Z', r, i, hZ, gr, hr⟩ := h
 exact ⟨vb, vl, e, hB.keep g, hL.keep g, Z', r, i.keep g, hZ, grown_trans gr g r (fun i e _ => e) (fun i e => by cases e), hr⟩
theorem dkE_store {w W0 W1 : World} {d : Nat} {F : Int → Option Ses} {n : Nat} {Z : Nat → Prop} {c : Cl} {A : Nat} (g0 : w.grownBy W0 none) (hA : A < W0.heap.size) (hw : w.heap.size ≤ A) (hZ : ∀ b, Z b → b < w.heap.size) {v : Int} {a : Option Addr} {m k : Nat} {a' : Option Addr} {m' k' : Nat} {en : Int}
  (h : DkE W0 d F n Z c v (.returned (ansV en v (.slice a m k) (.slice a' m' k'))) W1) (hA1 : BlkV W1 A 34 (ansC 0 0 (.slice none 0 0) (.slice none 0 0))) (v' : Int) :
  BlkV (putV W1 A 0 (ansC en v' (.slice a m k) (.slice a' m' k'))) A 34 (ansC en v' (.slice a m k) (.slice a' m' k')) ∧ DkE w d F n Z c v' (.returned (.agg (ansC en v' (.slice a m k) (.slice a' m' k')).toArray)) (putV W1 A 0 (ansC en v' (.slice a m k) (.slice a' m' k'))) := by
 obtain ⟨vb, vl, e, hB, hL, Z', r, i, hZ', gr, hr⟩ := h
 unfold ansV at e
 simp only [Ending.returned.injEq, Value.agg.injEq, Array.mk.injEq, List.cons.injEq, Value.int.injEq, true_and, and_true] at e
 obtain ⟨e1, e2, e3⟩ := e
 subst e1
 rw [← e2] at hB
 rw [← e3] at hL
 have P := ansP (en' := dkC (F c.v) n c) (v' := v') (vb' := .slice a m k) (vl' := .slice a' m' k') hA1
 refine ⟨P.1, .slice a m k, .slice a' m' k', rfl, (hB.keepLt P.2 (by omega)).base g0.size, (hL.keepLt P.2 (by omega)).base g0.size, Z', r, i.keepR P.2 (fun b e => ?_), fun b hb => ?_, ?_, hr⟩
 ·cases e
  intro q
  rcases hZ' A q with z | z
  ·have := hZ A z; omega
  ·omega
 ·rcases hZ' b hb with z | z
  ·exact .inl z
  ·exact .inr (Nat.le_trans g0.size z)
 ·exact grown_trans (grown_trans g0 gr r (fun i e => by cases e) (fun i e _ => e)) P.2 r (fun i e _ => e) (fun i e hi => by cases e; omega)
theorem dkE_blk {w W1 : World} {d : Nat} {F : Int → Option Ses} {n : Nat} {Z : Nat → Prop} {c : Cl} {v : Int} {x : Ending} (h : DkE w d F n Z c v x W1) {A : Nat} {T : TypeId} {cs : List Value} (hA : BlkV w A T cs) (hZ : ¬ Z A) : BlkV W1 A T cs := by
 obtain ⟨vb, vl, e, hB, hL, Z', r, i, hZ', gr, hr⟩ := h
 exact (gr.block _ (lt_of_some hA) (fun e => hZ (hr A e.symm))).trans hA
theorem dkE_form {w W1 : World} {d : Nat} {F : Int → Option Ses} {n : Nat} {Z : Nat → Prop} {c : Cl} {v : Int} {x : Ending} (h : DkE w d F n Z c v x W1) : ∃ en a m k a' m' k', x = .returned (ansV en v (.slice a m k) (.slice a' m' k')) := by
 obtain ⟨vb, vl, e, hB, hL, _⟩ := h
 obtain ⟨a, m, k, rfl⟩ := shp_sl hB.shp
 obtain ⟨a', m', k', rfl⟩ := shp_sl hL.shp
 exact ⟨_, a, m, k, a', m', k', e⟩
theorem clOk_keep {w w' : World} {c : Cl} {vs vb : Value} (h : ClOk w c vs vb) (g : w.grownBy w' none) : ClOk w' c vs vb := ⟨h.hk, h.hv, Ints_keep h.il g, h.sl, h.ll, h.nl, Byts_keep h.ib g, h.sb, h.bb, h.nb⟩
theorem dkE_open {w W0 W1 : World} {d : Nat} {F : Int → Option Ses} {n : Nat} {Z : Nat → Prop} {c : Cl} (hk : c.k = 1) (g0 : w.grownBy W0 none) {A : Nat} (hA : A < W0.heap.size) (hw : w.heap.size ≤ A) (hZ : ∀ b, Z b → b < w.heap.size) {x : Ending} (h : OpE W0 d F n Z c.v x W1) (hA1 : BlkV W1 A 34 (ansC 0 0 (.slice none 0 0) (.slice none 0 0))) :
  BlkV (putV W1 A 0 (ansC (opnC (F c.v) n c.v) 0 (.slice none 0 0) (.slice none 0 0))) A 34 (ansC (opnC (F c.v) n c.v) 0 (.slice none 0 0) (.slice none 0 0)) ∧ DkE w d F n Z c 0 (.returned (.agg (ansC (opnC (F c.v) n c.v) 0 (.slice none 0 0) (.slice none 0 0)).toArray)) (putV W1 A 0 (ansC (opnC (F c.v) n c.v) 0 (.slice none 0 0) (.slice none 0 0))) := by
 obtain ⟨_, Z', r, i, hZ', gr, hr⟩ := h
 have h1 : DkE W0 d F n Z c 0 (.returned (ansV (opnC (F c.v) n c.v) 0 (.slice none 0 0) (.slice none 0 0))) W1 := by
  refine ⟨(.slice none 0 0), (.slice none 0 0), by unfold dkC; rw [if_pos hk], ?_, ?_, Z', r, ?_, hZ', gr, hr⟩
  ·unfold dkB
   rw [if_neg (by omega)]
   exact OwnB_nil _ _
  ·unfold dkL
   rw [if_neg (by omega)]
   exact Own_nil _ _
  ·unfold dkF dkN dkO
   rw [if_pos hk, if_pos hk]
   by_cases e : opnC (F c.v) n c.v = 0
   ·rw [if_pos e, if_pos e] at i
    rw [if_pos e, if_pos e]
    exact i
   ·rw [if_neg e, if_neg e] at i
    rw [if_neg e, if_neg e, putS_self]
    exact i
 exact dkE_store g0 hA hw hZ h1 hA1 0
theorem opE_blk {w W1 : World} {d : Nat} {F : Int → Option Ses} {n : Nat} {Z : Nat → Prop} {v : Int} {x : Ending} (h : OpE w d F n Z v x W1) {A : Nat} {T : TypeId} {cs : List Value} (hA : BlkV w A T cs) (hZ : ¬ Z A) : BlkV W1 A T cs := by
 obtain ⟨e, Z', r, i, hZ', gr, hr⟩ := h
 exact (gr.block _ (lt_of_some hA) (fun e => hZ (hr A e.symm))).trans hA
theorem size5c : (Tryz.prog.info? 37).map (·.size) = some 5 := by kernel_rfl
set_option maxRecDepth 100000 in
theorem dkAnswered_open (W : World) (pc : CEn 20 W) (pd : CDe 22 W) (pe : CErs 23 W) (pb : CBg 17 W) (pf : CFr 18 W) (d : Nat) (F : Int → Option Ses) (n : Nat) (Z : Nat → Prop) (c : Cl) (a1 : Option Addr) (n1 c1 : Nat) (a2 : Option Addr) (n2 c2 : Nat) (w : World) (h : DkW w d F n Z) (gw : W.grownBy w none) (hc : ClOk w c (.slice a1 n1 c1) (.slice a2 n2 c2)) (hk : c.k = 1) : Calls Tryz.prog 25 #[.pointer (some ⟨d, 0, none⟩), clV c (.slice a1 n1 c1) (.slice a2 n2 c2)] w (DkE w d F n Z c 0) := by
 have hz := zAns
 have AS := hide (AsS.new w c (.slice a1 n1 c1) (.slice a2 n2 c2))
 have FN := hide (fun (W0 W1 : World) (g0 : w.grownBy W0 none) (A : Nat) (hA : A < W0.heap.size) (hw : w.heap.size ≤ A) (x : Ending) (q : OpE W0 d F n Z c.v x W1) hA1 => dkE_open (A := A) hk g0 hA hw h.zl q hA1)
 have CA := hide (fun (W0 : World) (g : w.grownBy W0 none) => dkOpen_any W pb pf d F n Z c.v hc.hv W0 (grown_none gw g) (h.keep g))
 have NZ := hide (show ¬ Z (w.heap.size + 1) from fun q => by have := h.zl _ q; omega)
 have EX := hide (fun (W0 W1 : World) (x : Ending) (q : OpE W0 d F n Z c.v x W1) => q.1)
 have BK := hide (fun (W0 W1 : World) (x : Ending) (q : OpE W0 d F n Z c.v x W1) hA => opE_blk (A := w.heap.size + 1) (T := 34) (cs := ansC 0 0 (.slice none 0 0) (.slice none 0 0)) q hA NZ.out)
 have HK := hide hk
 have be := build_ansE (opnC (F c.v) n c.v)
 clear h hc hk gw NZ
 generalize DkE w d F n Z c 0 = T at *
 unfold clV
 go_enter Tryz.func25, Tryz.ntmps25
 go_upto_region 1 with fail
 change Code.wp _ _ _ _ ((w.alloc (.cells (clC c (.slice a1 n1 c1) (.slice a2 n2 c2)).toArray 37)).alloc (.cells (ansC 0 0 (.slice none 0 0) (.slice none 0 0)).toArray 34))
 generalize (w.alloc (.cells (clC c (.slice a1 n1 c1) (.slice a2 n2 c2)).toArray 37)).alloc (.cells (ansC 0 0 (.slice none 0 0) (.slice none 0 0)).toArray 34) = W0 at *
 have C1 := hide (CA.out W0 AS.out.gr)
 have FN1 := hide (fun (W1 : World) (x : Ending) q => FN.out W0 W1 AS.out.gr (w.heap.size + 1) AS.out.size (by omega) x q (BK.out W0 W1 x q AS.out.an))
 have BK1 := hide (fun (W1 : World) (x : Ending) q => BK.out W0 W1 x q AS.out.an)
 have EX1 := hide (fun (W1 : World) (x : Ending) q => EX.out W0 W1 x q)
 have kc0 := BlkV.cell AS.out.cl 0
 have kc1 := BlkV.cell AS.out.cl 1
 simp [clC] at kc0 kc1
 rw [HK.out] at kc0
 clear CA FN BK EX AS
 generalize OpE W0 d F n Z c.v = OT at *
 generalize opnC (F c.v) n c.v = en at *
 go_wp2_with fail
 refine C1.out.mono ?_
 intro x W1 q
 obtain rfl := EX1.out W1 x q
 have FI := FN1.out W1 _ q
 have FF := hide FI.2
 have hlv := loadA FI.1
 have AA := hide (BK1.out W1 _ q)
 have O1 := hide (ansC_one en 0 none 0 0 none 0 0)
 clear FI FN1 BK1 EX1 C1 kc0 kc1 q
 go_wp2_with (first | refine wpList_store_v rfl 34 _ _ rfl (w.heap.size + 1) 0 34 (ansC 0 0 (.slice none 0 0) (.slice none 0 0)) (ansC en 0 (.slice none 0 0) (.slice none 0 0)) rfl rfl AA.out (by simp [ansC_len]) size4a O1.out ?_)
 refine bodyPost_ret (v := .agg (ansC en 0 (.slice none 0 0) (.slice none 0 0)).toArray) ?_ rfl FF.out
 simp [results, Tryz.results25, asAddr, Act.put, hlv]
set_option maxRecDepth 100000 in
theorem dkAnswered_ask (W : World) (pc : CEn 20 W) (pd : CDe 22 W) (pe : CErs 23 W) (pb : CBg 17 W) (pf : CFr 18 W) (d : Nat) (F : Int → Option Ses) (n : Nat) (Z : Nat → Prop) (c : Cl) (a1 : Option Addr) (n1 c1 : Nat) (a2 : Option Addr) (n2 c2 : Nat) (w : World) (h : DkW w d F n Z) (gw : W.grownBy w none) (hc : ClOk w c (.slice a1 n1 c1) (.slice a2 n2 c2)) (hk : 2 ≤ c.k ∧ c.k ≤ 5) : Calls Tryz.prog 25 #[.pointer (some ⟨d, 0, none⟩), clV c (.slice a1 n1 c1) (.slice a2 n2 c2)] w (DkE w d F n Z c 0) := by
 have hz := zAns
 have AS := hide (AsS.new w c (.slice a1 n1 c1) (.slice a2 n2 c2))
 have FN := hide (fun (W0 W1 : World) (g0 : w.grownBy W0 none) (A : Nat) (hA : A < W0.heap.size) (hw : w.heap.size ≤ A) en a m k a' m' k' q hA1 => dkE_store (c := c) (F := F) (n := n) (d := d) (v := 0) (en := en) (a := a) (m := m) (k := k) (a' := a') (m' := m') (k' := k') (W1 := W1) (A := A) g0 hA hw h.zl q hA1 0)
 have CA := hide (fun (W0 : World) (g : w.grownBy W0 none) => dkAsked_any W pc pd pe d F n Z c a1 n1 c1 a2 n2 c2 W0 (h.keep g) (grown_none gw g) (clOk_keep hc g) hk)
 have NZ := hide (show ¬ Z (w.heap.size + 1) from fun q => by have := h.zl _ q; omega)
 have BK := hide (fun (W0 W1 : World) (x : Ending) (q : DkE W0 d F n Z c 0 x W1) hA => dkE_blk (A := w.heap.size + 1) (T := 34) (cs := ansC 0 0 (.slice none 0 0) (.slice none 0 0)) q hA NZ.out)
 have EX := hide (fun (W0 W1 : World) (x : Ending) (q : DkE W0 d F n Z c 0 x W1) => dkE_form q)
 obtain e | e | e | e : c.k = 2 ∨ c.k = 3 ∨ c.k = 4 ∨ c.k = 5 := by omega
 ·have HK := hide e
  clear h hc hk gw NZ e
  generalize DkE w d F n Z c 0 = T at *
  unfold clV
  go_enter Tryz.func25, Tryz.ntmps25
  go_upto_region 1 with fail
  change Code.wp _ _ _ _ ((w.alloc (.cells (clC c (.slice a1 n1 c1) (.slice a2 n2 c2)).toArray 37)).alloc (.cells (ansC 0 0 (.slice none 0 0) (.slice none 0 0)).toArray 34))
  generalize (w.alloc (.cells (clC c (.slice a1 n1 c1) (.slice a2 n2 c2)).toArray 37)).alloc (.cells (ansC 0 0 (.slice none 0 0) (.slice none 0 0)).toArray 34) = W0 at *
  have C1 := hide (CA.out W0 AS.out.gr)
  have FN1 := hide (fun (W1 : World) en a m k a' m' k' q => FN.out W0 W1 AS.out.gr (w.heap.size + 1) AS.out.size (by omega) en a m k a' m' k' q (BK.out W0 W1 _ q AS.out.an))
  have BK1 := hide (fun (W1 : World) (x : Ending) q => BK.out W0 W1 x q AS.out.an)
  have EX1 := hide (fun (W1 : World) (x : Ending) q => EX.out W0 W1 x q)
  have kc0 := BlkV.cell AS.out.cl 0
  simp [clC] at kc0
  rw [HK.out] at kc0
  clear CA FN BK EX
  generalize DkE W0 d F n Z c 0 = OT at *
  unfold clV at C1
  go_wp2_with (first | refine wpList_load_v rfl 37 _ rfl w.heap.size 0 5 rfl 37 (clC c (.slice a1 n1 c1) (.slice a2 n2 c2)) AS.out.cl _ Tryz.underlying37 rfl size5c (by simp [clC]) _ rfl ?_)
  refine C1.out.mono ?_
  intro x W1 q
  obtain ⟨en, a, m, k, a', m', k', rfl⟩ := EX1.out W1 x q
  have FI := FN1.out W1 en a m k a' m' k' q
  have FF := hide FI.2
  have hlv := loadA FI.1
  have AA := hide (BK1.out W1 _ q)
  have O1 := hide (ansC_one en 0 a m k a' m' k')
  clear FI FN1 BK1 EX1 C1 kc0 q
  unfold ansV
  go_wp2_with (first | refine wpList_store_v rfl 34 _ _ rfl (w.heap.size + 1) 0 34 (ansC 0 0 (.slice none 0 0) (.slice none 0 0)) (ansC en 0 (.slice a m k) (.slice a' m' k')) rfl rfl AA.out (by simp [ansC_len]) size4a O1.out ?_)
  refine bodyPost_ret (v := .agg (ansC en 0 (.slice a m k) (.slice a' m' k')).toArray) ?_ rfl FF.out
  simp [results, Tryz.results25, asAddr, Act.put, hlv]
 ·have HK := hide e
  clear h hc hk gw NZ e
  generalize DkE w d F n Z c 0 = T at *
  unfold clV
  go_enter Tryz.func25, Tryz.ntmps25
  go_upto_region 1 with fail
  change Code.wp _ _ _ _ ((w.alloc (.cells (clC c (.slice a1 n1 c1) (.slice a2 n2 c2)).toArray 37)).alloc (.cells (ansC 0 0 (.slice none 0 0) (.slice none 0 0)).toArray 34))
  generalize (w.alloc (.cells (clC c (.slice a1 n1 c1) (.slice a2 n2 c2)).toArray 37)).alloc (.cells (ansC 0 0 (.slice none 0 0) (.slice none 0 0)).toArray 34) = W0 at *
  have C1 := hide (CA.out W0 AS.out.gr)
  have FN1 := hide (fun (W1 : World) en a m k a' m' k' q => FN.out W0 W1 AS.out.gr (w.heap.size + 1) AS.out.size (by omega) en a m k a' m' k' q (BK.out W0 W1 _ q AS.out.an))
  have BK1 := hide (fun (W1 : World) (x : Ending) q => BK.out W0 W1 x q AS.out.an)
  have EX1 := hide (fun (W1 : World) (x : Ending) q => EX.out W0 W1 x q)
  have kc0 := BlkV.cell AS.out.cl 0
  simp [clC] at kc0
  rw [HK.out] at kc0
  clear CA FN BK EX
  generalize DkE W0 d F n Z c 0 = OT at *
  unfold clV at C1
  go_wp2_with (first | refine wpList_load_v rfl 37 _ rfl w.heap.size 0 5 rfl 37 (clC c (.slice a1 n1 c1) (.slice a2 n2 c2)) AS.out.cl _ Tryz.underlying37 rfl size5c (by simp [clC]) _ rfl ?_)
  refine C1.out.mono ?_
  intro x W1 q
  obtain ⟨en, a, m, k, a', m', k', rfl⟩ := EX1.out W1 x q
  have FI := FN1.out W1 en a m k a' m' k' q
  have FF := hide FI.2
  have hlv := loadA FI.1
  have AA := hide (BK1.out W1 _ q)
  have O1 := hide (ansC_one en 0 a m k a' m' k')
  clear FI FN1 BK1 EX1 C1 kc0 q
  unfold ansV
  go_wp2_with (first | refine wpList_store_v rfl 34 _ _ rfl (w.heap.size + 1) 0 34 (ansC 0 0 (.slice none 0 0) (.slice none 0 0)) (ansC en 0 (.slice a m k) (.slice a' m' k')) rfl rfl AA.out (by simp [ansC_len]) size4a O1.out ?_)
  refine bodyPost_ret (v := .agg (ansC en 0 (.slice a m k) (.slice a' m' k')).toArray) ?_ rfl FF.out
  simp [results, Tryz.results25, asAddr, Act.put, hlv]
 ·have HK := hide e
  clear h hc hk gw NZ e
  generalize DkE w d F n Z c 0 = T at *
  unfold clV
  go_enter Tryz.func25, Tryz.ntmps25
  go_upto_region 1 with fail
  change Code.wp _ _ _ _ ((w.alloc (.cells (clC c (.slice a1 n1 c1) (.slice a2 n2 c2)).toArray 37)).alloc (.cells (ansC 0 0 (.slice none 0 0) (.slice none 0 0)).toArray 34))
  generalize (w.alloc (.cells (clC c (.slice a1 n1 c1) (.slice a2 n2 c2)).toArray 37)).alloc (.cells (ansC 0 0 (.slice none 0 0) (.slice none 0 0)).toArray 34) = W0 at *
  have C1 := hide (CA.out W0 AS.out.gr)
  have FN1 := hide (fun (W1 : World) en a m k a' m' k' q => FN.out W0 W1 AS.out.gr (w.heap.size + 1) AS.out.size (by omega) en a m k a' m' k' q (BK.out W0 W1 _ q AS.out.an))
  have BK1 := hide (fun (W1 : World) (x : Ending) q => BK.out W0 W1 x q AS.out.an)
  have EX1 := hide (fun (W1 : World) (x : Ending) q => EX.out W0 W1 x q)
  have kc0 := BlkV.cell AS.out.cl 0
  simp [clC] at kc0
  rw [HK.out] at kc0
  clear CA FN BK EX
  generalize DkE W0 d F n Z c 0 = OT at *
  unfold clV at C1
  go_wp2_with (first | refine wpList_load_v rfl 37 _ rfl w.heap.size 0 5 rfl 37 (clC c (.slice a1 n1 c1) (.slice a2 n2 c2)) AS.out.cl _ Tryz.underlying37 rfl size5c (by simp [clC]) _ rfl ?_)
  refine C1.out.mono ?_
  intro x W1 q
  obtain ⟨en, a, m, k, a', m', k', rfl⟩ := EX1.out W1 x q
  have FI := FN1.out W1 en a m k a' m' k' q
  have FF := hide FI.2
  have hlv := loadA FI.1
  have AA := hide (BK1.out W1 _ q)
  have O1 := hide (ansC_one en 0 a m k a' m' k')
  clear FI FN1 BK1 EX1 C1 kc0 q
  unfold ansV
  go_wp2_with (first | refine wpList_store_v rfl 34 _ _ rfl (w.heap.size + 1) 0 34 (ansC 0 0 (.slice none 0 0) (.slice none 0 0)) (ansC en 0 (.slice a m k) (.slice a' m' k')) rfl rfl AA.out (by simp [ansC_len]) size4a O1.out ?_)
  refine bodyPost_ret (v := .agg (ansC en 0 (.slice a m k) (.slice a' m' k')).toArray) ?_ rfl FF.out
  simp [results, Tryz.results25, asAddr, Act.put, hlv]
 ·have HK := hide e
  clear h hc hk gw NZ e
  generalize DkE w d F n Z c 0 = T at *
  unfold clV
  go_enter Tryz.func25, Tryz.ntmps25
  go_upto_region 1 with fail
  change Code.wp _ _ _ _ ((w.alloc (.cells (clC c (.slice a1 n1 c1) (.slice a2 n2 c2)).toArray 37)).alloc (.cells (ansC 0 0 (.slice none 0 0) (.slice none 0 0)).toArray 34))
  generalize (w.alloc (.cells (clC c (.slice a1 n1 c1) (.slice a2 n2 c2)).toArray 37)).alloc (.cells (ansC 0 0 (.slice none 0 0) (.slice none 0 0)).toArray 34) = W0 at *
  have C1 := hide (CA.out W0 AS.out.gr)
  have FN1 := hide (fun (W1 : World) en a m k a' m' k' q => FN.out W0 W1 AS.out.gr (w.heap.size + 1) AS.out.size (by omega) en a m k a' m' k' q (BK.out W0 W1 _ q AS.out.an))
  have BK1 := hide (fun (W1 : World) (x : Ending) q => BK.out W0 W1 x q AS.out.an)
  have EX1 := hide (fun (W1 : World) (x : Ending) q => EX.out W0 W1 x q)
  have kc0 := BlkV.cell AS.out.cl 0
  simp [clC] at kc0
  rw [HK.out] at kc0
  clear CA FN BK EX
  generalize DkE W0 d F n Z c 0 = OT at *
  unfold clV at C1
  go_wp2_with (first | refine wpList_load_v rfl 37 _ rfl w.heap.size 0 5 rfl 37 (clC c (.slice a1 n1 c1) (.slice a2 n2 c2)) AS.out.cl _ Tryz.underlying37 rfl size5c (by simp [clC]) _ rfl ?_)
  refine C1.out.mono ?_
  intro x W1 q
  obtain ⟨en, a, m, k, a', m', k', rfl⟩ := EX1.out W1 x q
  have FI := FN1.out W1 en a m k a' m' k' q
  have FF := hide FI.2
  have hlv := loadA FI.1
  have AA := hide (BK1.out W1 _ q)
  have O1 := hide (ansC_one en 0 a m k a' m' k')
  clear FI FN1 BK1 EX1 C1 kc0 q
  unfold ansV
  go_wp2_with (first | refine wpList_store_v rfl 34 _ _ rfl (w.heap.size + 1) 0 34 (ansC 0 0 (.slice none 0 0) (.slice none 0 0)) (ansC en 0 (.slice a m k) (.slice a' m' k')) rfl rfl AA.out (by simp [ansC_len]) size4a O1.out ?_)
  refine bodyPost_ret (v := .agg (ansC en 0 (.slice a m k) (.slice a' m' k')).toArray) ?_ rfl FF.out
  simp [results, Tryz.results25, asAddr, Act.put, hlv]
set_option maxRecDepth 100000 in
theorem dkAnswered_else (d : Nat) (F : Int → Option Ses) (n : Nat) (Z : Nat → Prop) (c : Cl) (a1 : Option Addr) (n1 c1 : Nat) (a2 : Option Addr) (n2 c2 : Nat) (w : World) (h : DkW w d F n Z) (hc : ClOk w c (.slice a1 n1 c1) (.slice a2 n2 c2)) (hk : c.k < 1 ∨ 5 < c.k) : Calls Tryz.prog 25 #[.pointer (some ⟨d, 0, none⟩), clV c (.slice a1 n1 c1) (.slice a2 n2 c2)] w (DkE w d F n Z c 0) := by
 have hz := zAns
 have AS := hide (AsS.new w c (.slice a1 n1 c1) (.slice a2 n2 c2))
 have FN := hide (fun (W0 : World) (q : AsS w c (.slice a1 n1 c1) (.slice a2 n2 c2) W0) => dkE_same (c := c) (en := 4) h (by unfold dkC; rw [if_neg (by omega), if_neg (by omega)]) (by unfold dkB; rw [if_neg (by omega)]) (by unfold dkL; rw [if_neg (by omega)]) (by unfold dkF dkO; rw [if_neg (by omega), if_neg (by omega)]; exact putS_self F c.v) (by unfold dkN; rw [if_neg (by omega), if_neg (by omega)]) q.an q.gr (by omega))
 have be := build_ansE 4
 have b1 : (c.k == 1) = false := beq_eq_false_iff_ne.2 (by omega)
 have b2 : (c.k == 2) = false := beq_eq_false_iff_ne.2 (by omega)
 have b3 : (c.k == 3) = false := beq_eq_false_iff_ne.2 (by omega)
 have b4 : (c.k == 4) = false := beq_eq_false_iff_ne.2 (by omega)
 have b5 : (c.k == 5) = false := beq_eq_false_iff_ne.2 (by omega)
 clear h hc hk
 generalize DkE w d F n Z c 0 = T at *
 unfold clV
 go_enter Tryz.func25, Tryz.ntmps25
 go_upto_region 1 with fail
 change Code.wp _ _ _ _ ((w.alloc (.cells (clC c (.slice a1 n1 c1) (.slice a2 n2 c2)).toArray 37)).alloc (.cells (ansC 0 0 (.slice none 0 0) (.slice none 0 0)).toArray 34))
 generalize (w.alloc (.cells (clC c (.slice a1 n1 c1) (.slice a2 n2 c2)).toArray 37)).alloc (.cells (ansC 0 0 (.slice none 0 0) (.slice none 0 0)).toArray 34) = W0 at *
 have FI := FN.out W0 AS.out
 have FF := hide FI.2
 have hlv := loadA FI.1
 have AA := hide AS.out.an
 have O1 := hide (ansC_one 4 0 none 0 0 none 0 0)
 have kc0 := BlkV.cell AS.out.cl 0
 simp [clC] at kc0
 clear FI FN AS
 go_wp2_with (first | refine wpList_store_v rfl 34 _ _ rfl (w.heap.size + 1) 0 34 (ansC 0 0 (.slice none 0 0) (.slice none 0 0)) (ansC 4 0 (.slice none 0 0) (.slice none 0 0)) rfl rfl AA.out (by simp [ansC_len]) size4a O1.out ?_)
 refine bodyPost_ret (v := .agg (ansC 4 0 (.slice none 0 0) (.slice none 0 0)).toArray) ?_ rfl FF.out
 simp [results, Tryz.results25, asAddr, Act.put, hlv]
theorem dkAnswered_any (W : World) (pc : CEn 20 W) (pd : CDe 22 W) (pe : CErs 23 W) (pb : CBg 17 W) (pf : CFr 18 W) (d : Nat) (F : Int → Option Ses) (n : Nat) (Z : Nat → Prop) (c : Cl) (a1 : Option Addr) (n1 c1 : Nat) (a2 : Option Addr) (n2 c2 : Nat) (w : World) (h : DkW w d F n Z) (gw : W.grownBy w none) (hc : ClOk w c (.slice a1 n1 c1) (.slice a2 n2 c2)) : Calls Tryz.prog 25 #[.pointer (some ⟨d, 0, none⟩), clV c (.slice a1 n1 c1) (.slice a2 n2 c2)] w (DkE w d F n Z c 0) := by
 by_cases e : c.k = 1
 ·exact dkAnswered_open W pc pd pe pb pf d F n Z c a1 n1 c1 a2 n2 c2 w h gw hc e
 ·by_cases e2 : 2 ≤ c.k ∧ c.k ≤ 5
  ·exact dkAnswered_ask W pc pd pe pb pf d F n Z c a1 n1 c1 a2 n2 c2 w h gw hc e2
  ·exact dkAnswered_else d F n Z c a1 n1 c1 a2 n2 c2 w h hc (by omega)
set_option maxRecDepth 100000 in
theorem dkDo_gen (p : Option Addr) (c : Cl) (a1 : Option Addr) (n1 c1 : Nat) (a2 : Option Addr) (n2 c2 : Nat) (w : World) (Q : World → Ending → World → Prop) (T : Ending → World → Prop) (CA : ∀ W0, w.grownBy W0 none → Calls Tryz.prog 25 #[.pointer p, clV c (.slice a1 n1 c1) (.slice a2 n2 c2)] W0 (Q W0))
  (EX : ∀ W0 x W1, w.grownBy W0 none → Q W0 x W1 → ∃ en a m k a' m' k', x = .returned (ansV en 0 (.slice a m k) (.slice a' m' k')))
  (BK : ∀ W0 x W1 T cs A, w.grownBy W0 none → Q W0 x W1 → w.heap.size ≤ A → BlkV W0 A T cs → BlkV W1 A T cs)
  (FN : ∀ W0 W1 W2 en a m k a' m' k', w.grownBy W0 none → w.heap.size + 1 < W0.heap.size → Q W0 (.returned (ansV en 0 (.slice a m k) (.slice a' m' k'))) W1 → W1.grownBy W2 none → BlkV W2 (w.heap.size + 1) 34 (ansC 0 0 (.slice none 0 0) (.slice none 0 0)) → T (.returned (.agg (ansC en c.v (.slice a m k) (.slice a' m' k')).toArray)) (putV W2 (w.heap.size + 1) 0 (ansC en c.v (.slice a m k) (.slice a' m' k')))) :
  Calls Tryz.prog 9 #[.pointer p, clV c (.slice a1 n1 c1) (.slice a2 n2 c2)] w T := by
 have hz := zAns
 have AS := hide (AsS.new w c (.slice a1 n1 c1) (.slice a2 n2 c2))
 unfold clV
 go_enter Tryz.func9, Tryz.ntmps9
 go_upto_region 1 with fail
 change Code.wp _ _ _ _ ((w.alloc (.cells (clC c (.slice a1 n1 c1) (.slice a2 n2 c2)).toArray 37)).alloc (.cells (ansC 0 0 (.slice none 0 0) (.slice none 0 0)).toArray 34))
 generalize (w.alloc (.cells (clC c (.slice a1 n1 c1) (.slice a2 n2 c2)).toArray 37)).alloc (.cells (ansC 0 0 (.slice none 0 0) (.slice none 0 0)).toArray 34) = W0 at *
 have C1 := hide (CA W0 AS.out.gr)
 have EX1 := hide (fun x W1 q => EX W0 x W1 AS.out.gr q)
 have BC1 := hide (fun x W1 q => BK W0 x W1 _ _ _ AS.out.gr q (Nat.le_refl _) AS.out.cl)
 have BA1 := hide (fun x W1 q => BK W0 x W1 _ _ _ AS.out.gr q (by omega) AS.out.an)
 have FN1 := hide (fun W1 W2 en a m k a' m' k' => FN W0 W1 W2 en a m k a' m' k' AS.out.gr AS.out.size)
 have LS := hide AS.out.size
 clear CA EX BK FN
 generalize Q W0 = QT at *
 unfold clV at C1
 go_wp2_with (first | refine wpList_load_v rfl 37 _ rfl w.heap.size 0 5 rfl 37 (clC c (.slice a1 n1 c1) (.slice a2 n2 c2)) AS.out.cl _ Tryz.underlying37 rfl size5c (by simp [clC]) _ rfl ?_)
 refine C1.out.mono ?_
 intro x W1 q
 obtain ⟨en, a, m, k, a', m', k', rfl⟩ := EX1.out x W1 q
 have CB := hide (BC1.out _ W1 q)
 have AB := hide (BA1.out _ W1 q)
 have N0 := hide (ans_new W1 0 0 (.slice none 0 0) (.slice none 0 0))
 have P := ansP (en' := en) (v' := 0) (vb' := .slice a m k) (vl' := .slice a' m' k') N0.out
 have N1 := hide P.1
 have G1 := hide (grown_own (grown_alloc W1 (.cells (ansC 0 0 (.slice none 0 0) (.slice none 0 0)).toArray 34) none) P.2 (Nat.le_refl _))
 have O0 := hide (ansC_one en 0 a m k a' m' k')
 have O1 := hide (ansC_one en c.v a m k a' m' k')
 have FN2 := hide (fun W2 g A => FN1.out W1 W2 en a m k a' m' k' q g A)
 have LT := hide AB.out.lt
 clear C1 EX1 BC1 BA1 FN1 q P AS
 unfold ansV
 go_upto_region 2 with (first | refine wpList_store_v rfl 34 _ _ rfl W1.heap.size 0 34 (ansC 0 0 (.slice none 0 0) (.slice none 0 0)) (ansC en 0 (.slice a m k) (.slice a' m' k')) rfl rfl N0.out (by simp [ansC_len]) size4a O0.out ?_)
 (try simp only [Act.put])
 clear N0
 have CB2 := hide (CB.out.keep G1.out)
 have AB2 := hide (AB.out.keep G1.out)
 clear CB AB
 generalize putV (W1.alloc (.cells (ansC 0 0 (.slice none 0 0) (.slice none 0 0)).toArray 34)) W1.heap.size 0 (ansC en 0 (.slice a m k) (.slice a' m' k')) = W2 at *
 have N2 := hide (show BlkV (W2.setCell ⟨W1.heap.size, 1, none⟩ (.int .i64 c.v)) W1.heap.size 34 (ansC en c.v (.slice a m k) (.slice a' m' k')) from N1.out.set 1 (.int .i64 c.v))
 have G2 := hide (grown_own G1.out (grown_setCell W2 ⟨W1.heap.size, 1, none⟩ (.int .i64 c.v)) (Nat.le_refl _))
 have AB3 := hide (AB2.out.keepBut (grown_setCell W2 ⟨W1.heap.size, 1, none⟩ (.int .i64 c.v)) (by have := LT.out; show _ ≠ W1.heap.size; omega))
 have kc1 := BlkV.cell CB2.out 1
 have na1 := BlkV.cell N1.out 1
 have nf1 := BlkV.free N1.out 1
 simp [clC] at kc1
 simp [ansC] at na1
 generalize W1.heap.size = bn at *
 go_upto_region 3 with fail
 clear kc1 na1 nf1 CB2 N1 AB2 G1
 generalize W2.setCell ⟨bn, 1, none⟩ (.int .i64 c.v) = W3 at *
 have P := ansP (en' := en) (v' := c.v) (vb' := .slice a m k) (vl' := .slice a' m' k') AB3.out
 have hlv := loadA P.1
 have FF := hide (FN2.out W3 G2.out AB3.out)
 clear P FN2 G2
 go_wp2_with (first | refine wpList_load_v rfl 34 _ rfl bn 0 4 rfl 34 (ansC en c.v (.slice a m k) (.slice a' m' k')) N2.out _ Tryz.underlying34 rfl size4a (by simp [ansC_len]) _ rfl ?_ | refine wpList_store_v rfl 34 _ _ rfl (w.heap.size + 1) 0 34 (ansC 0 0 (.slice none 0 0) (.slice none 0 0)) (ansC en c.v (.slice a m k) (.slice a' m' k')) rfl rfl AB3.out (by simp [ansC_len]) size4a O1.out ?_)
 refine bodyPost_ret (v := .agg (ansC en c.v (.slice a m k) (.slice a' m' k')).toArray) ?_ rfl FF.out
 simp [results, Tryz.results9, asAddr, Act.put, hlv]
theorem dkDo_any (W : World) (pc : CEn 20 W) (pd : CDe 22 W) (pe : CErs 23 W) (pb : CBg 17 W) (pf : CFr 18 W) (d : Nat) (F : Int → Option Ses) (n : Nat) (Z : Nat → Prop) (c : Cl) (a1 : Option Addr) (n1 c1 : Nat) (a2 : Option Addr) (n2 c2 : Nat) (w : World) (h : DkW w d F n Z) (gw : W.grownBy w none) (hc : ClOk w c (.slice a1 n1 c1) (.slice a2 n2 c2)) : Calls Tryz.prog 9 #[.pointer (some ⟨d, 0, none⟩), clV c (.slice a1 n1 c1) (.slice a2 n2 c2)] w (DkE w d F n Z c c.v) := by
 refine dkDo_gen (some ⟨d, 0, none⟩) c a1 n1 c1 a2 n2 c2 w (fun W0 => DkE W0 d F n Z c 0) _ (fun W0 g => dkAnswered_any W pc pd pe pb pf d F n Z c a1 n1 c1 a2 n2 c2 W0 (h.keep g) (grown_none gw g) (clOk_keep hc g)) (fun W0 x W1 g q => dkE_form q) (fun W0 x W1 T cs A g q hA hb => dkE_blk q hb (fun z => by have := h.zl _ z; omega)) (fun W0 W1 W2 en a m k a' m' k' g hs q g2 hA => ?_)
 exact (dkE_store g hs (by omega) h.zl (dkE_keep q g2) hA c.v).2
end Go.Proofs.YtdejpongekicdaaGreatDoor

/- DkL -/
namespace Go.Proofs.YtdejpongekicdaaGreatDoor

end Go.Proofs.YtdejpongekicdaaGreatDoor

/- OpensC -/
namespace Go.Proofs.YtdejpongekicdaaGreatDoor
set_option maxRecDepth 100000
open Go.ChangeShapes Go.WideShapes Go.ChangeAt Go.RowKit Go.Deep
set_option linter.unusedVariables false
set_option linter.unusedSimpArgs false
structure ClV where
 c : Cl
 a1 : Option Addr
 n1 : Nat
 c1 : Nat
 a2 : Option Addr
 n2 : Nat
 c2 : Nat
def ClV.ok (W : World) (z : ClV) : Prop := ClOk W z.c (.slice z.a1 z.n1 z.c1) (.slice z.a2 z.n2 z.c2)
def ClV.cs (z : ClV) : List Value := clC z.c (.slice z.a1 z.n1 z.c1) (.slice z.a2 z.n2 z.c2)
end Go.Proofs.YtdejpongekicdaaGreatDoor

/- TopC -/
namespace Go.Proofs.YtdejpongekicdaaGreatDoor
open Go.RowKit
set_option linter.unusedVariables false
set_option linter.unusedSimpArgs false
set_option maxHeartbeats 4000000
set_option maxRecDepth 100000 in
theorem topSameA_any (en v : Int) (a1 : Option Addr) (n1 c1 : Nat) (a2 : Option Addr) (n2 c2 : Nat) (b1 : Option Addr) (m1 k1 : Nat) (b2 : Option Addr) (m2 k2 : Nat) (B L : List Int) (w : World) (h1 : Byts w (.slice a1 n1 c1) B) (s1 : Shp (.slice a1 n1 c1) B) (h2 : Ints w (.slice a2 n2 c2) L) (h3 : Byts w (.slice b1 m1 k1) B) (s3 : Shp (.slice b1 m1 k1) B) (h4 : Ints w (.slice b2 m2 k2) L) (hL : L.length ≤ 1000000000000000000) :
  Calls Tryz.prog 14 #[ansV en v (.slice a1 n1 c1) (.slice a2 n2 c2), ansV en v (.slice b1 m1 k1) (.slice b2 m2 k2)] w fun x w' => x = .returned (.bool true) ∧ w.grownBy w' none := by
 have G0 := grown_none (grown_alloc w (.cells #[.int .i64 en, .int .i64 v, .slice a1 n1 c1, .slice a2 n2 c2] 34) none) (grown_alloc _ (.cells #[.int .i64 en, .int .i64 v, .slice b1 m1 k1, .slice b2 m2 k2] 34) none)
 have q1 := conv_byts (Byts_keep h1 G0) (shp_c s1)
 have q3 := conv_byts (Byts_keep h3 G0) (shp_c s3)
 have SA := hide (topSame_any _ _ L L _ (Ints_keep h2 G0) (Ints_keep h4 G0) hL hL)
 rw [decide_eq_true (rfl : L = L)] at SA
 have GG := hide G0
 clear h1 h2 h3 h4 s1 s3 G0
 generalize strOfNums B = sb at *
 unfold ansV
 go_enter Tryz.func14, Tryz.ntmps14
 go_wp2_with fail
 refine SA.out.mono ?_
 rintro x W1 ⟨rfl, k, rfl⟩
 go_wp2_with fail
 go_ret
 exact ⟨rfl, grown_none GG.out (grown_drewN' _ _ _)⟩
end Go.Proofs.YtdejpongekicdaaGreatDoor

/- TopL -/
namespace Go.Proofs.YtdejpongekicdaaGreatDoor
open Go.RowKit
set_option linter.unusedVariables false
set_option linter.unusedSimpArgs false
set_option maxHeartbeats 8000000
theorem blk_keepR {w w' : World} {A : Nat} {T : TypeId} {cs : List Value} {r : Option Nat} (h : BlkV w A T cs) (g : w.grownBy w' r) (hr : ∀ b, r = some b → b ≠ A) : BlkV w' A T cs :=
 (g.block _ (lt_of_some h) (fun e => hr A e.symm rfl)).trans h
theorem own_keepR {base : Nat} {w w' : World} {v : Value} {l : List Int} {r : Option Nat} (h : Own base w v l) (g : w.grownBy w' r) (hr : ∀ b, r = some b → b < base) : Own base w' v l := by
 rcases r with _ | b
 ·exact h.keep g
 ·exact h.keepLt g (hr b rfl)
theorem ownB_keepR {base : Nat} {w w' : World} {v : Value} {l : List Int} {r : Option Nat} (h : OwnB base w v l) (g : w.grownBy w' r) (hr : ∀ b, r = some b → b < base) : OwnB base w' v l := by
 rcases r with _ | b
 ·exact h.keep g
 ·exact h.keepLt g (hr b rfl)
structure Two (w : World) (d e : Nat) (F1 : Int → Option Ses) (n1 : Nat) (Z1 : Nat → Prop) (F2 : Int → Option Ses) (n2 : Nat) (Z2 : Nat → Prop) (wr : World) : Prop where
 d1 : DkW wr d F1 n1 Z1
 d2 : DkW wr e F2 n2 Z2
 ap : ∀ b, Z1 b → ¬ Z2 b
 b1 : ∀ b, Z1 b → w.heap.size ≤ b
 b2 : ∀ b, Z2 b → w.heap.size ≤ b
 gr : w.grownBy wr none
theorem Two.keep {w : World} {d e : Nat} {F1 : Int → Option Ses} {n1 : Nat} {Z1 : Nat → Prop} {F2 : Int → Option Ses} {n2 : Nat} {Z2 : Nat → Prop} {wr wr' : World} (h : Two w d e F1 n1 Z1 F2 n2 Z2 wr) (g : wr.grownBy wr' none) : Two w d e F1 n1 Z1 F2 n2 Z2 wr' :=
 ⟨h.d1.keep g, h.d2.keep g, h.ap, h.b1, h.b2, grown_none h.gr g⟩
theorem nilOk (w : World) (k v : Int) (hk : In1 k) (hv : In1 v) (r : Bool) : ClOk w ⟨k, v, r, [], []⟩ (.slice none 0 0) (.slice none 0 0) :=
 ⟨hk, hv, Ints_nil w, .inl rfl, fun i => by simp [nth], by simp, ⟨none, 0, rfl, Nat.le_refl _, fun h => by simp at h⟩, .inl rfl, fun i => by simp [nth], by simp⟩
theorem field_code (en v : Int) (a : Option Addr) (m q : Nat) (a' : Option Addr) (m' q' : Nat) (u : World) : Sem.run Tryz.prog (Instr.field 34 (.agg #[.int .i64 en, .int .i64 v, .slice a m q, .slice a' m' q']) 0) u = .ok (.int .i64 en) u := by kernel_rfl
end Go.Proofs.YtdejpongekicdaaGreatDoor

/- TopEnd -/
namespace Go.Proofs.YtdejpongekicdaaGreatDoor
open Go.RowKit
set_option linter.unusedVariables false
set_option linter.unusedSimpArgs false
def feB (L : Nat → Tk) (k : Nat) : List Int := encB (syE L k) (frmL (L k).l) (L k).r
def feM (L : Nat → Tk) : Nat → List Int
 | 0 => freL
 | k + 1 => if spotN (L k).f 3 = 0 then decM (feM L k) (feB L k) else ersM (feM L k)
def feT (L : Nat → Tk) : Nat → Bool
 | 0 => false
 | k + 1 => if spotN (L k).f 3 = 0 then decS (feM L k) (feB L k) else ersS (feM L k) (feT L k)
theorem feB_eq (L : Nat → Tk) (k : Nat) : feB L k = pkA (enP (syE L k) (frmL (L k).l) (L k).r) :=
 (enc_yes _ (goodE_ok (syE_good L k) (frmL_len _) (frmL_right _))).2.2.1
theorem fe_dec (L : Nat → Tk) (k : Nat) {m : List Int} (hg : goodM m = true) : decM m (feB L k) = plyM m (enP (syE L k) (frmL (L k).l) (L k).r) ∧ decL m (feB L k) = plyL m (enP (syE L k) (frmL (L k).l) (L k).r) ∧ decE m (feB L k) = 0 := by
 obtain ⟨a, b, c, d⟩ := dec_enc (l := frmL (L k).l) (syE_good L k) (L k).r hg
 rw [feB_eq]
 exact ⟨a, c, d⟩
theorem feM_good (L : Nat → Tk) : ∀ k, (feM L k).length = 101 ∧ goodM (feM L k) = true
 | 0 => ⟨freL_len, freL_good⟩
 | k + 1 => by
  obtain ⟨hl, hg⟩ := feM_good L k
  show (if spotN (L k).f 3 = 0 then decM (feM L k) (feB L k) else ersM (feM L k)).length = 101 ∧ goodM (if spotN (L k).f 3 = 0 then decM (feM L k) (feB L k) else ersM (feM L k)) = true
  split
  ·rw [(fe_dec L k hg).1]
   exact ⟨plyM_len _ hl, plyM_good hl hg (enP_good _ (syE_good L k).mem)⟩
  ·exact ⟨ersM_len _ hl, ersM_good hl hg⟩
end Go.Proofs.YtdejpongekicdaaGreatDoor

/- TopEw -/
namespace Go.Proofs.YtdejpongekicdaaGreatDoor

end Go.Proofs.YtdejpongekicdaaGreatDoor

/- TopE -/
namespace Go.Proofs.YtdejpongekicdaaGreatDoor
open Go.RowKit
set_option linter.unusedVariables false
set_option linter.unusedSimpArgs false
set_option maxHeartbeats 16000000
structure EnR (w : World) (wr : World) : Prop where
 re : BlkE wr w.heap.size (zeros 225) false
 rm : BlkM wr (w.heap.size + 1) (zeros 101) false
theorem EnR.keep {w wr wr' : World} (h : EnR w wr) (g : wr.grownBy wr' none) : EnR w wr' := ⟨h.re.keep g, h.rm.keep g⟩
theorem feT_len (L : Nat → Tk) (k : Nat) : (feB L k).length = 15 := by rw [feB_eq]; exact pkA_len _
end Go.Proofs.YtdejpongekicdaaGreatDoor

/- TopD -/
namespace Go.Proofs.YtdejpongekicdaaGreatDoor
open Go.RowKit
set_option linter.unusedVariables false
set_option linter.unusedSimpArgs false
set_option maxHeartbeats 16000000
def OneE (w : World) (d : Nat) (voice : Int) (Z : Nat → Prop) (s' : Option Ses) (B L : List Int) (x : Ending) (w' : World) : Prop :=
 ∃ a m k a' m' k', x = .returned (ansV 0 voice (.slice a m k) (.slice a' m' k')) ∧ OwnB w.heap.size w' (.slice a m k) B ∧ Own w.heap.size w' (.slice a' m' k') L ∧ ∃ (Z' : Nat → Prop) (r : Option Nat), DkW w' d (putS (fun _ => none) voice s') (if s'.isSome then 1 else 0) Z' ∧ (∀ b, Z' b → Z b ∨ w.heap.size ≤ b) ∧ w.grownBy w' r ∧ ∀ b, r = some b → Z b
theorem putS_put (F : Int → Option Ses) (v : Int) (o o' : Option Ses) : putS (putS F v o) v o' = putS F v o' := by
 funext x
 unfold putS
 split <;> rfl
theorem oneE_of {w w' : World} {d : Nat} {voice : Int} {Z : Nat → Prop} {s : Ses} {c : Cl} {x : Ending} (q : DkE w d (putS (fun _ => none) voice (some s)) 1 Z c c.v x w') (hv : c.v = voice) (hk : 2 ≤ c.k ∧ c.k ≤ 5) (h0 : ssY s c = 0) : OneE w d voice Z (ssX s c) (ssW s c) (ssZ s c) x w' := by
 subst hv
 obtain ⟨vb, vl, rfl, hB, hL, Z', r, i, hZ, gr, hr⟩ := q
 rw [putS_same] at hB hL i ⊢
 obtain ⟨a, m, k, rfl⟩ := shp_sl hB.shp
 obtain ⟨a', m', k', rfl⟩ := shp_sl hL.shp
 have e1 : ¬ c.k = 1 := by omega
 refine ⟨a, m, k, a', m', k', ?_, ?_, ?_, Z', r, ?_, hZ, gr, hr⟩
 ·unfold dkC
  rw [if_neg e1, if_pos hk]
  simp only [h0]
 ·unfold dkB at hB
  rw [if_pos hk] at hB
  exact hB
 ·unfold dkL at hL
  rw [if_pos hk] at hL
  exact hL
 ·have f1 : dkF (putS (fun _ => none) c.v (some s)) 1 c = putS (fun _ => none) c.v (ssX s c) := by
   unfold dkF dkO
   rw [putS_same, if_neg e1, if_pos hk, putS_put]
  have f2 : dkN (some s) 1 c = if (ssX s c).isSome then 1 else 0 := by
   unfold dkN ssX
   rw [if_neg e1]
   obtain e | e | e | e : c.k = 2 ∨ c.k = 3 ∨ c.k = 4 ∨ c.k = 5 := by omega
   all_goals simp [e]
  rw [f1, f2] at i
  exact i
theorem oneE_open {w w' : World} {d : Nat} {voice : Int} {Z : Nat → Prop} {c : Cl} {x : Ending} (q : DkE w d (fun _ => none) 0 Z c c.v x w') (hv : c.v = voice) (hk : c.k = 1) (h0 : 0 ≤ voice) : OneE w d voice Z (some fsh) [] [] x w' := by
 subst hv
 obtain ⟨vb, vl, rfl, hB, hL, Z', r, i, hZ, gr, hr⟩ := q
 obtain ⟨a, m, k, rfl⟩ := shp_sl hB.shp
 obtain ⟨a', m', k', rfl⟩ := shp_sl hL.shp
 have e0 : opnC none 0 c.v = 0 := by
  unfold opnC
  rw [if_neg (by omega), if_neg (by simp), if_neg (by omega)]
 refine ⟨a, m, k, a', m', k', ?_, ?_, ?_, Z', r, ?_, hZ, gr, hr⟩
 ·unfold dkC
  rw [if_pos hk, e0]
 ·unfold dkB at hB
  rw [if_neg (by omega)] at hB
  exact hB
 ·unfold dkL at hL
  rw [if_neg (by omega)] at hL
  exact hL
 ·unfold dkF dkN dkO at i
  rw [if_pos hk, if_pos hk, if_pos e0, if_pos e0] at i
  exact i
theorem one2 {w w' : World} {d : Nat} {voice : Int} {Z : Nat → Prop} {s : Ses} {r : Bool} {l : List Int} {x : Ending} (q : DkE w d (putS (fun _ => none) voice (some s)) 1 Z ⟨2, voice, r, l, []⟩ voice x w') (h0 : encE s.e l = 0) : OneE w d voice Z (some ⟨encM s.e l r, encT s.e l r, s.m, s.u⟩) (encB s.e l r) (encL s.e l r) x w' := by
 have := oneE_of q rfl (show (2 : Int) ≤ 2 ∧ (2 : Int) ≤ 5 from by omega) (by simp [ssY, h0])
 simpa [ssX, ssW, ssZ, ssE, h0] using this
theorem one3 {w w' : World} {d : Nat} {voice : Int} {Z : Nat → Prop} {s : Ses} {b : List Int} {x : Ending} (q : DkE w d (putS (fun _ => none) voice (some s)) 1 Z ⟨3, voice, false, [], b⟩ voice x w') (h0 : decE s.m b = 0) : OneE w d voice Z (some ⟨s.e, s.t, decM s.m b, decS s.m b⟩) [] (decL s.m b) x w' := by
 have := oneE_of q rfl (show (2 : Int) ≤ 3 ∧ (3 : Int) ≤ 5 from by omega) (by simp [ssY, h0])
 simpa [ssX, ssW, ssZ, ssD, h0] using this
theorem one4 {w w' : World} {d : Nat} {voice : Int} {Z : Nat → Prop} {s : Ses} {x : Ending} (q : DkE w d (putS (fun _ => none) voice (some s)) 1 Z ⟨4, voice, false, [], []⟩ voice x w') (h0 : ersE s.m = 0) : OneE w d voice Z (some ⟨s.e, s.t, ersM s.m, ersS s.m s.u⟩) [] (ersL s.m) x w' := by
 have := oneE_of q rfl (show (2 : Int) ≤ 4 ∧ (4 : Int) ≤ 5 from by omega) (by simp [ssY, h0])
 simpa [ssX, ssW, ssZ, ssR, h0] using this
theorem one5 {w w' : World} {d : Nat} {voice : Int} {Z : Nat → Prop} {s : Ses} {x : Ending} (q : DkE w d (putS (fun _ => none) voice (some s)) 1 Z ⟨5, voice, false, [], []⟩ voice x w') : OneE w d voice Z none [] [] x w' := by
 have := oneE_of q rfl (show (2 : Int) ≤ 5 ∧ (5 : Int) ≤ 5 from by omega) (by simp [ssY])
 simpa [ssX, ssW, ssZ] using this
def sesK (L : Nat → Tk) (k : Nat) : Ses := ⟨syE L k, syS L k, feM L k, feT L k⟩
theorem sesK_ok (L : Nat → Tk) (k : Nat) : SesOk (sesK L k) := ⟨syE_good L k, (feM_good L k).1, (feM_good L k).2⟩
structure DtR (w : World) (d bs : Nat) (voice : Int) (e m : List Int) (t u : Bool) (s : Ses) (Z : Nat → Prop) (wr : World) : Prop where
 es : BlkE wr bs e t
 ms : BlkM wr (bs + 1) m u
 dk : DkW wr d (putS (fun _ => none) voice (some s)) 1 Z
 zb : ∀ b, Z b → w.heap.size ≤ b
 zs : ¬ Z bs
 zm : ¬ Z (bs + 1)
 gr : w.grownBy wr none
 hb : w.heap.size ≤ bs
theorem DtR.keep {w : World} {d bs : Nat} {voice : Int} {e m : List Int} {t u : Bool} {s : Ses} {Z : Nat → Prop} {wr wr' : World} (h : DtR w d bs voice e m t u s Z wr) (g : wr.grownBy wr' none) : DtR w d bs voice e m t u s Z wr' :=
 ⟨h.es.keep g, h.ms.keep g, h.dk.keep g, h.zb, h.zs, h.zm, grown_none h.gr g, h.hb⟩
theorem DtR.step {w : World} {d bs : Nat} {voice : Int} {e m : List Int} {t u : Bool} {s s1 : Ses} {Z : Nat → Prop} {wr wr' : World} {Z' : Nat → Prop} {r : Option Nat} {N : Nat} (h : DtR w d bs voice e m t u s Z wr) (i : DkW wr' d (putS (fun _ => none) voice (some s1)) 1 Z') (hZ : ∀ b, Z' b → Z b ∨ N ≤ b) (hN : wr.heap.size ≤ N) (g : wr.grownBy wr' r) (hr : ∀ b, r = some b → Z b) : DtR w d bs voice e m t u s1 Z' wr' := by
 have l2 : bs + 1 < wr.heap.size := BlkM.lt h.ms
 refine ⟨blk_keepR h.es g (fun b e q => h.zs (q ▸ hr b e)), blk_keepR h.ms g (fun b e q => h.zm (q ▸ hr b e)), i, fun b z => ?_, fun z => ?_, fun z => ?_, grown_own' h.gr g (fun b e => h.zb b (hr b e)), h.hb⟩
 ·rcases hZ b z with q | q
  ·exact h.zb b q
  ·have := h.gr.size; omega
 ·rcases hZ bs z with q | q
  ·exact h.zs q
  ·omega
 ·rcases hZ (bs + 1) z with q | q
  ·exact h.zm q
  ·omega
theorem DtR.setE {w : World} {d bs : Nat} {voice : Int} {e e' m : List Int} {t t' u : Bool} {s : Ses} {Z : Nat → Prop} {wr : World} (h : DtR w d bs voice e m t u s Z wr) (hl : e.length = 225) (hl' : e'.length = 225) : DtR w d bs voice e' m t' u s Z (putV wr bs 0 (encC e' t')) := by
 have P := h.es.putAll (m := e') (t := t') hl hl'
 exact ⟨P.1, h.ms.keepBut P.2 (by omega), h.dk.keepR P.2 (fun b e q => by cases e; exact h.zs q), h.zb, h.zs, h.zm, grown_own h.gr P.2 h.hb, h.hb⟩
theorem DtR.setM {w : World} {d bs : Nat} {voice : Int} {e m m' : List Int} {t u u' : Bool} {s : Ses} {Z : Nat → Prop} {wr : World} (h : DtR w d bs voice e m t u s Z wr) (hl : m.length = 101) (hl' : m'.length = 101) : DtR w d bs voice e m' t u' s Z (putV wr (bs + 1) 0 (memC m' u')) := by
 have P := h.ms.putAll (m := m') (t := u') hl hl'
 exact ⟨h.es.keepBut P.2 (by omega), P.1, h.dk.keepR P.2 (fun b e q => by cases e; exact h.zm q), h.zb, h.zs, h.zm, grown_own h.gr P.2 (Nat.le_succ_of_le h.hb), h.hb⟩
def AnR (W0 : World) (d : Nat) (voice : Int) (Z : Nat → Prop) (s' : Ses) (B L : List Int) (s14 : Value) (wx : World) : Prop :=
 ∃ ba a m k a' m' k', s14 = .pointer (some ⟨ba, 0, none⟩) ∧ BlkV wx ba 34 (ansC 0 voice (.slice a m k) (.slice a' m' k')) ∧ OwnB W0.heap.size wx (.slice a m k) B ∧ Own W0.heap.size wx (.slice a' m' k') L ∧ W0.heap.size ≤ ba ∧ ∃ (Z' : Nat → Prop) (r : Option Nat), DkW wx d (putS (fun _ => none) voice (some s')) 1 Z' ∧ (∀ b, Z' b → Z b ∨ W0.heap.size ≤ b) ∧ W0.grownBy wx r ∧ ∀ b, r = some b → Z b
theorem build_open (v : Int) (u : World) : Sem.run Tryz.prog (Instr.build 37 #[(0, .int .i64 1), (1, .int .i64 v)]) u = .ok (clV ⟨1, v, false, [], []⟩ (.slice none 0 0) (.slice none 0 0)) u := by kernel_rfl
theorem build_decC (v : Int) (a : Option Addr) (n c : Nat) (b : List Int) (u : World) : Sem.run Tryz.prog (Instr.build 37 #[(0, .int .i64 3), (1, .int .i64 v), (4, .slice a n c)]) u = .ok (clV ⟨3, v, false, [], b⟩ (.slice none 0 0) (.slice a n c)) u := by kernel_rfl
theorem build_ersC (v : Int) (u : World) : Sem.run Tryz.prog (Instr.build 37 #[(0, .int .i64 4), (1, .int .i64 v)]) u = .ok (clV ⟨4, v, false, [], []⟩ (.slice none 0 0) (.slice none 0 0)) u := by kernel_rfl
theorem build_cloC (v : Int) (u : World) : Sem.run Tryz.prog (Instr.build 37 #[(0, .int .i64 5), (1, .int .i64 v)]) u = .ok (clV ⟨5, v, false, [], []⟩ (.slice none 0 0) (.slice none 0 0)) u := by kernel_rfl
theorem build_anB (v : Int) (b : Option Addr) (m d : Nat) (a : Option Addr) (n c : Nat) (u : World) : Sem.run Tryz.prog (Instr.build 34 #[(1, .int .i64 v), (2, .slice b m d), (3, .slice a n c)]) u = .ok (ansV 0 v (.slice b m d) (.slice a n c)) u := by kernel_rfl
theorem build_anL (v : Int) (a : Option Addr) (n c : Nat) (u : World) : Sem.run Tryz.prog (Instr.build 34 #[(1, .int .i64 v), (3, .slice a n c)]) u = .ok (ansV 0 v (.slice none 0 0) (.slice a n c)) u := by kernel_rfl
theorem bytsNil (w : World) : Byts w (.slice none 0 0) [] := ⟨none, 0, rfl, Nat.le_refl _, fun h => by simp at h⟩
set_option maxRecDepth 100000 in
theorem law_topDesk (w : World) (pc : CEn 20 w) (pd : CDe 22 w) (pe : CErs 23 w) (pb : CBg 17 w) (pf : CFr 18 w) (v : Value) (n : Nat) (L : Nat → Tk) (h : Talks w v n L) (voice0 : Int) :
  Calls Tryz.prog 6 #[v, .int .i64 voice0] w fun e w' => e = .returned (.bool true) ∧ Below w.heap.size w w' := by
 obtain ⟨ad, c, rfl, hc, hc63, hT⟩ := h
 have TA := hide (talks_any ad n c hc hc63 (fun h0 => by obtain ⟨b, o, rfl, _⟩ := hT h0; simp))
 have HT := hide hT
 have AL := hide (fun wr g => alive_any w pc pd pb pf wr g)
 have SPV := hide (topSpot_any voice0 2147483648 (by omega) (by omega))
 have hv0 : 0 ≤ spotN voice0 2147483648 := by unfold spotN; omega
 have hv1 : spotN voice0 2147483648 < 2147483648 := by unfold spotN; omega
 have DO := hide (fun d F n Z c a1 n1 c1 a2 n2 c2 wr (h : DkW wr d F n Z) g ok => dkDo_any w pc pd pe pb pf d F n Z c a1 n1 c1 a2 n2 c2 wr h g ok)
 have MN := hide dkMany_any
 have NW := hide (dkNew_any w)
 have PC := hide pc
 have PD := hide pd
 have PE := hide pe
 have PB := hide pb
 have PF := hide pf
 have SH80 := hide (fun b l (hl : l.length = 80) => show Shp (.slice (some ⟨b, 0, none⟩) 80 80) l from .inr ⟨_, _, by rw [hl]⟩)
 have ZL := hide (encC_len (zeros_len 225) false)
 have ZM := hide (memC_len (zeros_len 101) false)
 have hz := zero_enc
 have hy := zero_mem
 have hzA := zAns
 have F := hide (show ∀ w', w.grownBy w' none → (fun (e : Ending) (w' : World) => e = .returned (.bool true) ∧ Below w.heap.size w w') (.returned (.bool true)) w' from fun w' q => ⟨rfl, below_of_grown q⟩)
 obtain ⟨T, hT'⟩ : ∃ T : Ending → World → Prop, (fun (e : Ending) (w' : World) => e = .returned (.bool true) ∧ Below w.heap.size w w') = T := ⟨_, rfl⟩
 rw [hT'] at F ⊢
 clear hT' hT pc pd pe pb pf
 unfold encV at hz
 unfold memV at hy
 unfold CBg AnsC encV at PB
 unfold CFr AnsC memV at PF
 unfold AnsC at AL
 have LB := hide begL_len
 have LF := hide freL_len
 have SK0 := hide (show sesK L 0 = fsh from rfl)
 have S0 := hide (show syE L 0 = begL from rfl)
 have S1 := hide (show feM L 0 = freL from rfl)
 have OPN := hide (fun (d : Nat) (voice : Int) (Z : Nat → Prop) (wx w' : World) (x : Ending) q => oneE_open (w := wx) (w' := w') (d := d) (voice := voice) (Z := Z) (c := ⟨1, voice, false, [], []⟩) (x := x) q rfl rfl)
 generalize fsh = FS0 at *
 generalize begL = BL at *
 generalize freL = FL at *
 go_enter Tryz.func6, Tryz.ntmps6
 go_wp2_with fail
 refine (SPV.out w).mono ?_
 rintro x wq ⟨rfl, hq⟩
 subst wq
 clear SPV
 generalize spotN voice0 2147483648 = voice at *
 go_wp2_with fail
 refine NW.out.mono ?_
 rintro x W0 ⟨d, Z0, rfl, k0, hz0, g0⟩
 have K0 := hide k0
 have HZ0 := hide hz0
 have G0 := hide g0
 clear NW k0 hz0 g0
 go_wp2_with fail
 refine (PB.out W0 G0.out).mono ?_
 rintro x W1 ⟨rfl, g1⟩
 have G1 := hide g1
 clear PB g1
 (try unfold encV)
 go_wp2_with fail
 refine (PF.out W1 (grown_none G0.out G1.out)).mono ?_
 rintro x W2 ⟨rfl, g2⟩
 have GX := hide (grown_none G1.out g2)
 have G2 := hide (grown_none G0.out GX.out)
 clear PF G1 g2
 (try unfold memV)
 have CB := hide (encC_len LB.out false)
 have CF := hide (memC_len LF.out false)
 have E0 := hide (show BlkE ((W2.alloc (.cells (encC (zeros 225) false).toArray 55)).alloc (.cells (memC (zeros 101) false).toArray 53)) W2.heap.size (zeros 225) false from (BlkE.new W2 (zeros 225) false).keep (grown_alloc _ _ none))
 have M0 := hide (show BlkM ((W2.alloc (.cells (encC (zeros 225) false).toArray 55)).alloc (.cells (memC (zeros 101) false).toArray 53)) (W2.heap.size + 1) (zeros 101) false from by have := BlkM.new (W2.alloc (.cells (encC (zeros 225) false).toArray 55)) (zeros 101) false; simpa using this)
 have GC := hide (show W2.grownBy ((W2.alloc (.cells (encC (zeros 225) false).toArray 55)).alloc (.cells (memC (zeros 101) false).toArray 53)) none from grown_none (grown_alloc W2 _ none) (grown_alloc _ _ none))
 have P1 := E0.out.putAll (m := BL) (t := false) (zeros_len 225) LB.out
 have M1 := hide (M0.out.keepBut P1.2 (by omega))
 have P2 := M1.out.putAll (m := FL) (t := false) (zeros_len 101) LF.out
 have E2 := hide (P1.1.keepBut P2.2 (by omega))
 have M2 := hide P2.1
 have HB := hide (World.grownBy.size G2.out)
 have G3 := hide (grown_own (grown_own (grown_none G2.out GC.out) P1.2 (World.grownBy.size G2.out)) P2.2 (by have := World.grownBy.size G2.out; omega))
 have G3' := hide (grown_own (grown_own (grown_none GX.out GC.out) P1.2 (World.grownBy.size GX.out)) P2.2 (by have := World.grownBy.size GX.out; omega))
 have K3 := hide (K0.out.keep G3'.out)
 have ZB := hide (show ∀ b, Z0 b → b < W2.heap.size from fun b z => Nat.lt_of_lt_of_le (K0.out.zl b z) (World.grownBy.size GX.out))
 clear M0 GC P1 P2 G2 GX G3' K0 G0
 go_upto_region 4 with (first | refine wpList_store_v rfl 55 _ _ rfl W2.heap.size 0 55 (encC (zeros 225) false) (encC BL false) rfl rfl E0.out (by rw [ZL.out, CB.out]; omega) (by rw [CB.out]; exact size226) (encC_one _ _) ?_ | refine wpList_store_v rfl 53 _ _ rfl (W2.heap.size + 1) 0 53 (memC (zeros 101) false) (memC FL false) rfl rfl M1.out (by rw [ZM.out, CF.out]; omega) (by rw [CF.out]; exact size102) (memC_one _ _) ?_)
 (try simp only [Act.put])
 clear E0 M1
 generalize putV (putV ((W2.alloc (.cells (encC (zeros 225) false).toArray 55)).alloc (.cells (memC (zeros 101) false).toArray 53)) W2.heap.size 0 (encC BL false)) (W2.heap.size + 1) 0 (memC FL false) = W3 at *
 generalize W2.heap.size = bs at *
 have D3 := hide (DO.out d (fun _ => none) 0 Z0 ⟨1, voice, false, [], []⟩ none 0 0 none 0 0 W3 K3.out G3.out (nilOk W3 1 voice ⟨by omega, by omega⟩ ⟨by omega, by omega⟩ false))
 have O3 := hide (fun x w' q => OPN.out d voice Z0 W3 w' x q hv0)
 have bo := build_open voice
 unfold clV at D3 bo
 clear OPN
 go_wp2_with fail
 refine D3.out.mono ?_
 rintro x W4 q4
 obtain ⟨a, m, kk, a', m', k', rfl, _, _, Z1, r, q3, q4', q5, q6⟩ := O3.out x W4 q4
 have R0 := hide (show DtR w d bs voice (syE L 0) (feM L 0) false false (sesK L 0) Z1 W4 from by
  rw [S0.out, S1.out, SK0.out]
  exact ⟨blk_keepR E2.out q5 (fun b e q => by have := ZB.out b (q6 b e); omega), blk_keepR M2.out q5 (fun b e q => by have := ZB.out b (q6 b e); omega), q3, fun b z => (q4' b z).elim (HZ0.out b) (fun h => Nat.le_trans (World.grownBy.size G3.out) h), fun z => by rcases q4' _ z with h | h; (have := ZB.out _ h; omega); (have := BlkM.lt M2.out; omega), fun z => by rcases q4' _ z with h | h; (have := ZB.out _ h; omega); (have := BlkM.lt M2.out; omega), grown_own' G3.out q5 (fun b e => HZ0.out b (q6 b e)), HB.out⟩)
 have hfc := field_code 0 voice a m kk a' m' k'
 clear q4 q3 q4' q5 q6 D3 O3 E2 M2 G3 K3 ZB HB bo LB LF CB CF
 unfold ansV
 go_wp2_with fail
 refine (TA.out W4).mono ?_
 rintro x W5 ⟨c', rfl, hc', rfl⟩
 clear TA hfc
 obtain ⟨N, hN, hN2⟩ : ∃ N : Nat, min n 12 = N ∧ N ≤ n := ⟨_, rfl, by omega⟩
 have hN12 : N ≤ 12 := by omega
 rw [hN] at hc' ⊢
 clear hN
 go_wp2_with fail
 go_loopw [35] (fun i wr => ∃ (k : Nat) (Z : Nat → Prop), i = .int .i64 k ∧ k ≤ N ∧ Hid (DtR w d bs voice (syE L k) (feM L k) (syS L k) (feT L k) (sesK L k) Z wr)) (fun i _ => N - (intOf i).toNat)
 case atStart => exact ⟨0, Z1, rfl, Nat.zero_le _, R0.out⟩
 case round =>
  obtain ⟨k, Z, rfl, hk, hI⟩ := hrel
  clear R0 S0 S1 SK0
  by_cases hkn : k < N
  ·obtain ⟨b, o, rfl, hTk⟩ := HT.out (by omega)
   have iv : In1 voice := ⟨by omega, by omega⟩
   have i2 : In1 2 := ⟨by omega, by omega⟩
   have i3 : In1 3 := ⟨by omega, by omega⟩
   have KT := talks_keep (hTk k (by omega)) hI.out.gr
   have GE := syE_good L k
   have GM := feM_good L k
   have OKS := sesK_ok L k
   have RR := hide (tkR_of GE (frmL (L k).l) (frmL_len _) (frmL_right _) (L k).r)
   have A := hide (fun v' wr' g h sh => PC.out (syE L k) (syS L k) GE.len (goodE_64 GE) v' (frmL (L k).l) wr' g h sh (frm_64 _) (by rw [frmL_len]; omega) (L k).r)
   have D := hide (fun v' wr' g h sh => PD.out (feM L k) (feT L k) GM.1 (good_64 GM.1 GM.2) v' (feB L k) wr' g h sh RR.out.by' (by rw [feT_len]; omega))
   have ER := hide (fun wr' g => PE.out (feM L k) (feT L k) GM.1 (good_64 GM.1 GM.2) wr' g)
   rw [show encB (syE L k) (frmL (L k).l) (L k).r = feB L k from rfl] at A
   have DOE0 := hide (fun (Z : Nat → Prop) wr' (h : DkW wr' d (putS (fun _ => none) voice (some (sesK L k))) 1 Z) g bf (hI : Ints wr' (.slice (some ⟨bf, 0, none⟩) 80 80) (frmL (L k).l)) sh => DO.out d _ 1 Z ⟨2, voice, (L k).r, frmL (L k).l, []⟩ (some ⟨bf, 0, none⟩) 80 80 none 0 0 wr' h g ⟨i2, iv, hI, sh, frm_64 _, by rw [frmL_len]; omega, bytsNil wr', .inl rfl, fun i => by simp [nth], by simp⟩)
   have OE0 := hide (fun (Z : Nat → Prop) wr' w' x (q : DkE wr' d (putS (fun _ => none) voice (some (sesK L k))) 1 Z ⟨2, voice, (L k).r, frmL (L k).l, []⟩ voice x w') => (show OneE wr' d voice Z (some ⟨encM (syE L k) (frmL (L k).l) (L k).r, encT (syE L k) (frmL (L k).l) (L k).r, feM L k, feT L k⟩) (feB L k) (encL (syE L k) (frmL (L k).l) (L k).r) x w' from one2 q RR.out.er))
   have DOD := hide (fun (Z : Nat → Prop) wr' (h : DkW wr' d (putS (fun _ => none) voice (some ⟨encM (syE L k) (frmL (L k).l) (L k).r, encT (syE L k) (frmL (L k).l) (L k).r, feM L k, feT L k⟩)) 1 Z) g a n c (hB : Byts wr' (.slice a n c) (feB L k)) sh => DO.out d _ 1 Z ⟨3, voice, false, [], feB L k⟩ none 0 0 a n c wr' h g ⟨i3, iv, Ints_nil wr', .inl rfl, fun i => by simp [nth], by simp, hB, sh, RR.out.by', by rw [feT_len]; omega⟩)
   have OED := hide (fun (Z : Nat → Prop) wr' x w' (q : DkE wr' d (putS (fun _ => none) voice (some ⟨encM (syE L k) (frmL (L k).l) (L k).r, encT (syE L k) (frmL (L k).l) (L k).r, feM L k, feT L k⟩)) 1 Z ⟨3, voice, false, [], feB L k⟩ voice x w') => (show OneE wr' d voice Z (some ⟨encM (syE L k) (frmL (L k).l) (L k).r, encT (syE L k) (frmL (L k).l) (L k).r, decM (feM L k) (feB L k), decS (feM L k) (feB L k)⟩) [] (decL (feM L k) (feB L k)) x w' from one3 q (fe_dec L k GM.2).2.2))
   have DOR := hide (fun (Z : Nat → Prop) wr' (h : DkW wr' d (putS (fun _ => none) voice (some ⟨encM (syE L k) (frmL (L k).l) (L k).r, encT (syE L k) (frmL (L k).l) (L k).r, feM L k, feT L k⟩)) 1 Z) g => DO.out d _ 1 Z ⟨4, voice, false, [], []⟩ none 0 0 none 0 0 wr' h g (nilOk wr' 4 voice ⟨by omega, by omega⟩ ⟨by omega, by omega⟩ false))
   have OER := hide (fun (Z : Nat → Prop) wr' x w' (q : DkE wr' d (putS (fun _ => none) voice (some ⟨encM (syE L k) (frmL (L k).l) (L k).r, encT (syE L k) (frmL (L k).l) (L k).r, feM L k, feT L k⟩)) 1 Z ⟨4, voice, false, [], []⟩ voice x w') => (show OneE wr' d voice Z (some ⟨encM (syE L k) (frmL (L k).l) (L k).r, encT (syE L k) (frmL (L k).l) (L k).r, ersM (feM L k), ersS (feM L k) (feT L k)⟩) [] (ersL (feM L k)) x w' from one4 q (ers_yes (s := true) GM.2).2.2.2))
   have FR0 := hide (fun wr' (g : wr.grownBy wr' none) => frame_any (L k).v (L k).l wr' (Ints_keep KT.li g) KT.len)
   have X0 := hide (show syE L (k + 1) = encM (syE L k) (frmL (L k).l) (L k).r from rfl)
   have X1 := hide (show syS L (k + 1) = encT (syE L k) (frmL (L k).l) (L k).r from rfl)
   have Y0 := hide (show spotN (L k).f 3 = 0 → feM L (k + 1) = decM (feM L k) (feB L k) ∧ feT L (k + 1) = decS (feM L k) (feB L k) from fun h => ⟨if_pos h, if_pos h⟩)
   have Y1 := hide (show ¬ spotN (L k).f 3 = 0 → feM L (k + 1) = ersM (feM L k) ∧ feT L (k + 1) = ersS (feM L k) (feT L k) from fun h => ⟨if_neg h, if_neg h⟩)
   have XL := hide (encM_len (l := frmL (L k).l) (L k).r GE.len)
   have EL := hide GE.len
   have MML := hide GM.1
   have DML := hide (decM_len (feB L k) GM.1)
   have EML := hide (ersM_len (feM L k) GM.1)
   have EL80 := hide (ersL_right GM.1 GM.2).1
   have DL80 := hide (show (decL (feM L k) (feB L k)).length = 80 from by rw [(fe_dec L k GM.2).2.1]; exact (plyL_right GM.1 GM.2 (enP_good _ GE.mem)).1)
   have HL80 := hide RR.out.hl
   have FLn := hide (frmL_len (L k).l)
   have HE := hide (ers_yes (s := true) GM.2).2.2.2
   have HD := hide (fe_dec L k GM.2).2.2
   unfold EncE at A
   unfold MemE at D ER
   rw [RR.out.er] at A
   rw [HD.out] at D
   rw [HE.out] at ER
   have TV : ∃ a n c, (L k).v = .slice a n c := by obtain ⟨a, c, e, _⟩ := KT.li; exact ⟨a, _, c, e⟩
   have SP3 := hide (topSpot_any (L k).f 3 (by omega) (by omega))
   have k0 := KT.c0
   have k1 := KT.c1
   have k2 := KT.c2
   have k3 := KT.c3
   have k4 := KT.c4
   have IS := hide hI.out
   clear KT hTk RR GE GM hI PC PD PE HT F OKS HD HE DO AL MN iv i2 i3
   unfold sesK at IS DOE0 OE0
   generalize encM (syE L k) (frmL (L k).l) (L k).r = X at *
   generalize encT (syE L k) (frmL (L k).l) (L k).r = t1 at *
   generalize encL (syE L k) (frmL (L k).l) (L k).r = HH at *
   generalize decM (feM L k) (feB L k) = DM at *
   generalize decS (feM L k) (feB L k) = du at *
   generalize decL (feM L k) (feB L k) = DK at *
   generalize feB L k = BB at *
   generalize syE L k = E at *
   generalize syS L k = t0 at *
   generalize ersM (feM L k) = EM at *
   generalize ersS (feM L k) (feT L k) = eu at *
   generalize ersL (feM L k) = EK at *
   generalize feM L k = MM at *
   generalize feT L k = u0 at *
   generalize frmL (L k).l = fl at *
   generalize (L k).v = tv at *
   generalize (L k).l = tl at *
   generalize (L k).r = tr at *
   generalize spotN (L k).f 3 = f3 at *
   generalize (L k).f = tf at *
   generalize (L k).a = ta at *
   generalize (L k).m = tm at *
   obtain ⟨av, nv, cv, rfl⟩ := TV
   have CE := hide (encC_len EL.out t0)
   have AE := hide (BlkE.all t0 EL.out)
   have CX := hide (encC_len XL.out t1)
   have AX := hide (BlkE.all t1 XL.out)
   have CM := hide (memC_len MML.out u0)
   have AM := hide (BlkM.all u0 MML.out)
   unfold encV memV at *
   have F0 := hide (heap_new wr (.cells #[.slice av nv cv, .bool tr, .int .i64 tf, .int .i64 ta, .int .i64 tm] 60))
   have GA := grown_alloc wr (.cells #[.slice av nv cv, .bool tr, .int .i64 tf, .int .i64 ta, .int .i64 tm] 60) none
   have DT0 := hide (IS.out.keep GA)
   have FR := hide (fun wr' (g : (wr.alloc (.cells #[.slice av nv cv, .bool tr, .int .i64 tf, .int .i64 ta, .int .i64 tm] 60)).grownBy wr' none) => FR0.out wr' (grown_none GA g))
   have ZLb := hide (show ∀ b, Z b → b < wr.heap.size from IS.out.dk.zl)
   have DTL := hide (show bs + 1 < wr.heap.size from BlkM.lt IS.out.ms)
   clear GA FR0 IS
   go_upto_region 9 with fail
   clear k0 k1 k2 k3 k4
   generalize wr.alloc (.cells #[.slice av nv cv, .bool tr, .int .i64 tf, .int .i64 ta, .int .i64 tm] 60) = W0 at *
   have K0 := hide (show W0.cell? ⟨wr.heap.size, 0, none⟩ = some (.slice av nv cv) from cell_of_heap F0.out 0)
   have K1 := hide (show W0.cell? ⟨wr.heap.size, 1, none⟩ = some (.bool tr) from cell_of_heap F0.out 1)
   have TB0 := hide (show BlkV W0 wr.heap.size 60 [.slice av nv cv, .bool tr, .int .i64 tf, .int .i64 ta, .int .i64 tm] from F0.out)
   clear F0
   have NZT := hide (show ¬ Z wr.heap.size from fun z => by have := ZLb.out _ z; omega)
   have LTB := hide (show wr.heap.size < W0.heap.size from TB0.out.lt)
   have DT0L := hide (show bs + 1 < wr.heap.size from DTL.out)
   generalize wr.heap.size = bt at *
   have ES := hide DT0.out.es
   have GR := hide DT0.out.gr
   go_cut [10, 11, 12, 13] from 37 to 106 (fun s7 s8 s9 s10 wx => EncR W0 X t1 BB HH 0 s7 s8 s9 s10 wx)
   case first =>
    clear SP3 D ER Y0 Y1 DML EML EL80 DL80 HL80 X0 X1 MML DOE0 OE0 DOD OED DOR OER TB0 DT0 CM AM AX ZM hN12 hN2 hc63 hc hc' NZT ZLb hv0 hv1 hzA LTB DT0L DTL
    refine wp_region_held_drew (S := GrownW W0) (by kernel_rfl) (gw_start _) (fun hHeld => ?_)
    refine wpAnyH_take (i := 0) (v := .agg (encC E t0).toArray) rfl (by kernel_rfl) (by kernel_rfl) (by kernel_rfl) (fun _ _ _ h => h) (Or.inl ⟨by rfl, ?ykt1⟩) hHeld ?rkt1
    case ykt1 => (intro w' hSw; exact yields_load_v rfl rfl (BlkE.keep ES.out hSw) _ Tryz.underlying55 rfl size226 (by rw [CE.out]; omega) _ AE.out)
    (try simp only [Act.put, sL])
    refine wpAnyH_take (i := 1) (v := ?vkt2) rfl (by kernel_rfl) (by kernel_rfl) (by kernel_rfl) (fun _ _ _ h => h) (Or.inl ⟨by rfl, ?ykt2⟩) hHeld ?rkt2
    case ykt2 => (intro w' hSw; go_simp; (try with_reducible rfl))
    (try simp only [Act.put, sL])
    refine wpAnyH_take (i := 2) (v := .slice av nv cv) rfl (by kernel_rfl) (by kernel_rfl) (by kernel_rfl) (fun _ _ _ h => h) (Or.inl ⟨by rfl, ?ykt3⟩) hHeld ?rkt3
    case ykt3 => (intro w' hSw; have qc := grown_keep hSw K0.out; go_simp; (try with_reducible rfl))
    (try simp only [Act.put, sL])
    refine wpAnyH_take (i := 4) (v := ?vkt4) rfl (by kernel_rfl) (by kernel_rfl) (by kernel_rfl) (fun _ _ _ h => h) (Or.inl ⟨by rfl, ?ykt4⟩) hHeld ?rkt4
    case ykt4 => (intro w' hSw; go_simp; (try with_reducible rfl))
    (try simp only [Act.put, sL])
    refine wpAnyH_take (i := 5) (v := .bool tr) rfl (by kernel_rfl) (by kernel_rfl) (by kernel_rfl) (fun _ _ _ h => h) (Or.inl ⟨by rfl, ?ykt5⟩) hHeld ?rkt5
    case ykt5 => (intro w' hSw; have qc := grown_keep hSw K1.out; go_simp; (try with_reducible rfl))
    (try simp only [Act.put, sL])
    refine wpAnyH_ready (rs := [3, 12]) (by kernel_rfl) (by simp) (AllReadyH.cons rfl (fun K hK => ?gkt6) (AllReadyH.cons rfl (fun K hK => ?gkt7) AllReadyH.nil))
    case gkt6 =>
     (try simp only [Act.put, sL])
     go_simp
     refine (FR.out _ hHeld).mono ?_
     rintro e wkt8 ⟨bf, rfl, hb, hbf, gkt8⟩
     have Gkt8 := hide gkt8
     have OF := hide (hb)
     clear gkt8 hb hbf
     (try unfold memV)
     (try unfold encV)
     go_wp2_with fail
     refine hK.out _ _ (gw_trans hHeld Gkt8.out) (fun hHeld => ?_)
     clear hK
     (try simp only [Act.put, sL])
     refine wpAnyH_ready (rs := [6, 12]) (by kernel_rfl) (by simp) (AllReadyH.cons rfl (fun K hK => ?gkt9) (AllReadyH.cons rfl (fun K hK => ?gkt10) AllReadyH.nil))
     case gkt9 =>
      (try simp only [Act.put, sL])
      go_simp
      refine (A.out _ _ (grown_none GR.out hHeld) (ints80 OF.out FLn.out) (SH80.out _ _ FLn.out)).mono ?_
      rintro e wkt11 ⟨vb, vl, rfl, ob, ol, gkt11⟩
      have Gkt11 := hide gkt11
      have OB := hide (ob.base (b' := W0.heap.size) (World.grownBy.size hHeld))
      have OL := hide (ol.base (b' := W0.heap.size) (World.grownBy.size hHeld))
      clear gkt11 ob ol
      (try unfold memV)
      (try unfold encV)
      go_wp2_with fail
      refine hK.out _ _ (gw_trans hHeld Gkt11.out) (fun hHeld => ?_)
      clear hK
      have OF := hide (OF.out.keep Gkt11.out)
      (try simp only [Act.put, sL])
      refine wpAnyH_take (i := 7) (v := ?vkt12) rfl (by kernel_rfl) (by kernel_rfl) (by kernel_rfl) (fun _ _ _ h => h) (Or.inl ⟨by rfl, ?ykt12⟩) hHeld ?rkt12
      case ykt12 => (intro w' hSw; go_simp; (try with_reducible rfl))
      (try simp only [Act.put, sL])
      refine wpAnyH_take (i := 8) (v := ?vkt13) rfl (by kernel_rfl) (by kernel_rfl) (by kernel_rfl) (fun _ _ _ h => h) (Or.inl ⟨by rfl, ?ykt13⟩) hHeld ?rkt13
      case ykt13 => (intro w' hSw; go_simp; (try with_reducible rfl))
      (try simp only [Act.put, sL])
      refine wpAnyH_take (i := 9) (v := ?vkt14) rfl (by kernel_rfl) (by kernel_rfl) (by kernel_rfl) (fun _ _ _ h => h) (Or.inl ⟨by rfl, ?ykt14⟩) hHeld ?rkt14
      case ykt14 => (intro w' hSw; go_simp; (try with_reducible rfl))
      (try simp only [Act.put, sL])
      refine wpAnyH_take (i := 10) (v := ?vkt15) rfl (by kernel_rfl) (by kernel_rfl) (by kernel_rfl) (fun _ _ _ h => h) (Or.inl ⟨by rfl, ?ykt15⟩) hHeld ?rkt15
      case ykt15 => (intro w' hSw; go_simp; (try with_reducible rfl))
      (try simp only [Act.put, sL])
      refine wpAnyH_take (i := 11) (v := ?vkt16) rfl (by kernel_rfl) (by kernel_rfl) (by kernel_rfl) (fun _ _ _ h => h) (Or.inl ⟨by rfl, ?ykt16⟩) hHeld ?rkt16
      case ykt16 => (intro w' hSw; go_simp; (try with_reducible rfl))
      (try simp only [Act.put, sL])
      refine wpAnyH_ready (rs := [12]) (by kernel_rfl) (by simp) (AllReadyH.cons rfl (fun K hK => ?_) AllReadyH.nil)
      (try simp only [Act.put, sL])
      go_simp
      go_wp2_with fail
      have HB := hide (show W0.heap.size ≤ wkt11.heap.size from by first | exact Nat.le_refl _ | exact World.grownBy.size hHeld)
      refine hK.out _ _ (gw_alloc hHeld (.cells (encC (zeros 225) false).toArray 55)) (fun hHeld => ?_)
      clear hK
      have HZ := hide (show BlkE (wkt11.alloc (.cells (encC (zeros 225) false).toArray 55)) wkt11.heap.size (zeros 225) false from BlkE.new wkt11 (zeros 225) false)
      have OB := hide (OB.out.keep (grown_alloc wkt11 (.cells (encC (zeros 225) false).toArray 55) none))
      have OL := hide (OL.out.keep (grown_alloc wkt11 (.cells (encC (zeros 225) false).toArray 55) none))
      generalize wkt11.alloc (.cells (encC (zeros 225) false).toArray 55) = wzkt17 at *
      (try simp only [Act.put, sL])
      refine wpAnyH_ready (rs := [13]) (by kernel_rfl) (by simp) (AllReadyH.cons rfl (fun K hK => ?_) AllReadyH.nil)
      (try simp only [Act.put, sL])
      refine step_store_v rfl 55 _ _ rfl (wkt11.heap.size) 0 55 (encC (zeros 225) false) (encC X t1) rfl rfl HZ.out (by rw [ZL.out, CX.out]; omega) (by rw [CX.out]; exact size226) (encC_one _ _) ?_
      have PU := HZ.out.putAll (m := X) (t := t1) (zeros_len 225) XL.out
      have OB := hide (OB.out.keepBut PU.2 HZ.out (by decide))
      have OL := hide (OL.out.keepBut PU.2 HZ.out (by decide))
      refine hK.out _ _ (gw_own hHeld PU.2 HB.out) (fun hHeld => ?_)
      clear hK
      (try simp only [Act.put, sL])
      refine wpAnyH_take (i := 14) (v := ?vkt19) rfl (by kernel_rfl) (by kernel_rfl) (by kernel_rfl) (fun _ _ _ h => h) (Or.inl ⟨by rfl, ?ykt19⟩) hHeld ?rkt19
      case ykt19 => (intro w' hSw; go_simp; (try with_reducible rfl))
      (try simp only [Act.put, sL])
      refine wpAnyH_take (i := 15) (v := ?vkt20) rfl (by kernel_rfl) (by kernel_rfl) (by kernel_rfl) (fun _ _ _ h => h) (Or.inl ⟨by rfl, ?ykt20⟩) hHeld ?rkt20
      case ykt20 => (intro w' hSw; go_simp; (try with_reducible rfl))
      (try simp only [Act.put, sL])
      refine wpAnyH_take (i := 16) (v := ?vkt21) rfl (by kernel_rfl) (by kernel_rfl) (by kernel_rfl) (fun _ _ _ h => h) (Or.inl ⟨by rfl, ?ykt21⟩) hHeld ?rkt21
      case ykt21 => (intro w' hSw; go_simp; (try with_reducible rfl))
      (try simp only [Act.put, sL])
      refine wpAnyH_done (by kernel_rfl) ?_ _
      go_wp2_with fail
      go_meet
      exact ⟨wkt11.heap.size, rfl, rfl, PU.1, OB.out, OL.out, HB.out, hHeld⟩
     case gkt10 =>
      (try simp only [Act.put, sL])
      go_simp
      go_wp2_with fail
      have HB := hide (show W0.heap.size ≤ wkt8.heap.size from by first | exact Nat.le_refl _ | exact World.grownBy.size hHeld)
      refine hK.out _ _ (gw_alloc hHeld (.cells (encC (zeros 225) false).toArray 55)) (fun hHeld => ?_)
      clear hK
      have HZ := hide (show BlkE (wkt8.alloc (.cells (encC (zeros 225) false).toArray 55)) wkt8.heap.size (zeros 225) false from BlkE.new wkt8 (zeros 225) false)
      have OF := hide (OF.out.keep (grown_alloc wkt8 (.cells (encC (zeros 225) false).toArray 55) none))
      generalize wkt8.alloc (.cells (encC (zeros 225) false).toArray 55) = wzkt22 at *
      (try simp only [Act.put, sL])
      refine wpAnyH_ready (rs := [6]) (by kernel_rfl) (by simp) (AllReadyH.cons rfl (fun K hK => ?_) AllReadyH.nil)
      (try simp only [Act.put, sL])
      go_simp
      refine (A.out _ _ (grown_none GR.out hHeld) (ints80 OF.out FLn.out) (SH80.out _ _ FLn.out)).mono ?_
      rintro e wkt23 ⟨vb, vl, rfl, ob, ol, gkt23⟩
      have Gkt23 := hide gkt23
      have OB := hide (ob.base (b' := W0.heap.size) (World.grownBy.size hHeld))
      have OL := hide (ol.base (b' := W0.heap.size) (World.grownBy.size hHeld))
      clear gkt23 ob ol
      (try unfold memV)
      (try unfold encV)
      go_wp2_with fail
      refine hK.out _ _ (gw_trans hHeld Gkt23.out) (fun hHeld => ?_)
      clear hK
      have OF := hide (OF.out.keep Gkt23.out)
      have HZ := hide (HZ.out.keep Gkt23.out)
      (try simp only [Act.put, sL])
      refine wpAnyH_take (i := 7) (v := ?vkt24) rfl (by kernel_rfl) (by kernel_rfl) (by kernel_rfl) (fun _ _ _ h => h) (Or.inl ⟨by rfl, ?ykt24⟩) hHeld ?rkt24
      case ykt24 => (intro w' hSw; go_simp; (try with_reducible rfl))
      (try simp only [Act.put, sL])
      refine wpAnyH_take (i := 8) (v := ?vkt25) rfl (by kernel_rfl) (by kernel_rfl) (by kernel_rfl) (fun _ _ _ h => h) (Or.inl ⟨by rfl, ?ykt25⟩) hHeld ?rkt25
      case ykt25 => (intro w' hSw; go_simp; (try with_reducible rfl))
      (try simp only [Act.put, sL])
      refine wpAnyH_take (i := 9) (v := ?vkt26) rfl (by kernel_rfl) (by kernel_rfl) (by kernel_rfl) (fun _ _ _ h => h) (Or.inl ⟨by rfl, ?ykt26⟩) hHeld ?rkt26
      case ykt26 => (intro w' hSw; go_simp; (try with_reducible rfl))
      (try simp only [Act.put, sL])
      refine wpAnyH_take (i := 10) (v := ?vkt27) rfl (by kernel_rfl) (by kernel_rfl) (by kernel_rfl) (fun _ _ _ h => h) (Or.inl ⟨by rfl, ?ykt27⟩) hHeld ?rkt27
      case ykt27 => (intro w' hSw; go_simp; (try with_reducible rfl))
      (try simp only [Act.put, sL])
      refine wpAnyH_take (i := 11) (v := ?vkt28) rfl (by kernel_rfl) (by kernel_rfl) (by kernel_rfl) (fun _ _ _ h => h) (Or.inl ⟨by rfl, ?ykt28⟩) hHeld ?rkt28
      case ykt28 => (intro w' hSw; go_simp; (try with_reducible rfl))
      (try simp only [Act.put, sL])
      refine wpAnyH_ready (rs := [13]) (by kernel_rfl) (by simp) (AllReadyH.cons rfl (fun K hK => ?_) AllReadyH.nil)
      (try simp only [Act.put, sL])
      refine step_store_v rfl 55 _ _ rfl (wkt8.heap.size) 0 55 (encC (zeros 225) false) (encC X t1) rfl rfl HZ.out (by rw [ZL.out, CX.out]; omega) (by rw [CX.out]; exact size226) (encC_one _ _) ?_
      have PU := HZ.out.putAll (m := X) (t := t1) (zeros_len 225) XL.out
      have OB := hide (OB.out.keepBut PU.2 HZ.out (by decide))
      have OL := hide (OL.out.keepBut PU.2 HZ.out (by decide))
      refine hK.out _ _ (gw_own hHeld PU.2 HB.out) (fun hHeld => ?_)
      clear hK
      (try simp only [Act.put, sL])
      refine wpAnyH_take (i := 14) (v := ?vkt30) rfl (by kernel_rfl) (by kernel_rfl) (by kernel_rfl) (fun _ _ _ h => h) (Or.inl ⟨by rfl, ?ykt30⟩) hHeld ?rkt30
      case ykt30 => (intro w' hSw; go_simp; (try with_reducible rfl))
      (try simp only [Act.put, sL])
      refine wpAnyH_take (i := 15) (v := ?vkt31) rfl (by kernel_rfl) (by kernel_rfl) (by kernel_rfl) (fun _ _ _ h => h) (Or.inl ⟨by rfl, ?ykt31⟩) hHeld ?rkt31
      case ykt31 => (intro w' hSw; go_simp; (try with_reducible rfl))
      (try simp only [Act.put, sL])
      refine wpAnyH_take (i := 16) (v := ?vkt32) rfl (by kernel_rfl) (by kernel_rfl) (by kernel_rfl) (fun _ _ _ h => h) (Or.inl ⟨by rfl, ?ykt32⟩) hHeld ?rkt32
      case ykt32 => (intro w' hSw; go_simp; (try with_reducible rfl))
      (try simp only [Act.put, sL])
      refine wpAnyH_done (by kernel_rfl) ?_ _
      go_wp2_with fail
      go_meet
      exact ⟨wkt8.heap.size, rfl, rfl, PU.1, OB.out, OL.out, HB.out, hHeld⟩
    case gkt7 =>
     (try simp only [Act.put, sL])
     go_simp
     go_wp2_with fail
     have HB := hide (show W0.heap.size ≤ W0.heap.size from by first | exact Nat.le_refl _ | exact World.grownBy.size hHeld)
     refine hK.out _ _ (gw_alloc hHeld (.cells (encC (zeros 225) false).toArray 55)) (fun hHeld => ?_)
     clear hK
     have HZ := hide (show BlkE ((W0.alloc (.cells (encC (zeros 225) false).toArray 55)).drew) W0.heap.size (zeros 225) false from BlkE.new W0.drew (zeros 225) false)
     generalize (W0.alloc (.cells (encC (zeros 225) false).toArray 55)).drew = wzkt33 at *
     (try simp only [Act.put, sL])
     refine wpAnyH_ready (rs := [3]) (by kernel_rfl) (by simp) (AllReadyH.cons rfl (fun K hK => ?_) AllReadyH.nil)
     (try simp only [Act.put, sL])
     go_simp
     refine (FR.out _ hHeld).mono ?_
     rintro e wkt34 ⟨bf, rfl, hb, hbf, gkt34⟩
     have Gkt34 := hide gkt34
     have OF := hide (hb)
     clear gkt34 hb hbf
     (try unfold memV)
     (try unfold encV)
     go_wp2_with fail
     refine hK.out _ _ (gw_trans hHeld Gkt34.out) (fun hHeld => ?_)
     clear hK
     have HZ := hide (HZ.out.keep Gkt34.out)
     (try simp only [Act.put, sL])
     refine wpAnyH_ready (rs := [6]) (by kernel_rfl) (by simp) (AllReadyH.cons rfl (fun K hK => ?_) AllReadyH.nil)
     (try simp only [Act.put, sL])
     go_simp
     refine (A.out _ _ (grown_none GR.out hHeld) (ints80 OF.out FLn.out) (SH80.out _ _ FLn.out)).mono ?_
     rintro e wkt35 ⟨vb, vl, rfl, ob, ol, gkt35⟩
     have Gkt35 := hide gkt35
     have OB := hide (ob.base (b' := W0.heap.size) (World.grownBy.size hHeld))
     have OL := hide (ol.base (b' := W0.heap.size) (World.grownBy.size hHeld))
     clear gkt35 ob ol
     (try unfold memV)
     (try unfold encV)
     go_wp2_with fail
     refine hK.out _ _ (gw_trans hHeld Gkt35.out) (fun hHeld => ?_)
     clear hK
     have HZ := hide (HZ.out.keep Gkt35.out)
     have OF := hide (OF.out.keep Gkt35.out)
     (try simp only [Act.put, sL])
     refine wpAnyH_take (i := 7) (v := ?vkt36) rfl (by kernel_rfl) (by kernel_rfl) (by kernel_rfl) (fun _ _ _ h => h) (Or.inl ⟨by rfl, ?ykt36⟩) hHeld ?rkt36
     case ykt36 => (intro w' hSw; go_simp; (try with_reducible rfl))
     (try simp only [Act.put, sL])
     refine wpAnyH_take (i := 8) (v := ?vkt37) rfl (by kernel_rfl) (by kernel_rfl) (by kernel_rfl) (fun _ _ _ h => h) (Or.inl ⟨by rfl, ?ykt37⟩) hHeld ?rkt37
     case ykt37 => (intro w' hSw; go_simp; (try with_reducible rfl))
     (try simp only [Act.put, sL])
     refine wpAnyH_take (i := 9) (v := ?vkt38) rfl (by kernel_rfl) (by kernel_rfl) (by kernel_rfl) (fun _ _ _ h => h) (Or.inl ⟨by rfl, ?ykt38⟩) hHeld ?rkt38
     case ykt38 => (intro w' hSw; go_simp; (try with_reducible rfl))
     (try simp only [Act.put, sL])
     refine wpAnyH_take (i := 10) (v := ?vkt39) rfl (by kernel_rfl) (by kernel_rfl) (by kernel_rfl) (fun _ _ _ h => h) (Or.inl ⟨by rfl, ?ykt39⟩) hHeld ?rkt39
     case ykt39 => (intro w' hSw; go_simp; (try with_reducible rfl))
     (try simp only [Act.put, sL])
     refine wpAnyH_take (i := 11) (v := ?vkt40) rfl (by kernel_rfl) (by kernel_rfl) (by kernel_rfl) (fun _ _ _ h => h) (Or.inl ⟨by rfl, ?ykt40⟩) hHeld ?rkt40
     case ykt40 => (intro w' hSw; go_simp; (try with_reducible rfl))
     (try simp only [Act.put, sL])
     refine wpAnyH_ready (rs := [13]) (by kernel_rfl) (by simp) (AllReadyH.cons rfl (fun K hK => ?_) AllReadyH.nil)
     (try simp only [Act.put, sL])
     refine step_store_v rfl 55 _ _ rfl (W0.heap.size) 0 55 (encC (zeros 225) false) (encC X t1) rfl rfl HZ.out (by rw [ZL.out, CX.out]; omega) (by rw [CX.out]; exact size226) (encC_one _ _) ?_
     have PU := HZ.out.putAll (m := X) (t := t1) (zeros_len 225) XL.out
     have OB := hide (OB.out.keepBut PU.2 HZ.out (by decide))
     have OL := hide (OL.out.keepBut PU.2 HZ.out (by decide))
     refine hK.out _ _ (gw_own hHeld PU.2 HB.out) (fun hHeld => ?_)
     clear hK
     (try simp only [Act.put, sL])
     refine wpAnyH_take (i := 14) (v := ?vkt42) rfl (by kernel_rfl) (by kernel_rfl) (by kernel_rfl) (fun _ _ _ h => h) (Or.inl ⟨by rfl, ?ykt42⟩) hHeld ?rkt42
     case ykt42 => (intro w' hSw; go_simp; (try with_reducible rfl))
     (try simp only [Act.put, sL])
     refine wpAnyH_take (i := 15) (v := ?vkt43) rfl (by kernel_rfl) (by kernel_rfl) (by kernel_rfl) (fun _ _ _ h => h) (Or.inl ⟨by rfl, ?ykt43⟩) hHeld ?rkt43
     case ykt43 => (intro w' hSw; go_simp; (try with_reducible rfl))
     (try simp only [Act.put, sL])
     refine wpAnyH_take (i := 16) (v := ?vkt44) rfl (by kernel_rfl) (by kernel_rfl) (by kernel_rfl) (fun _ _ _ h => h) (Or.inl ⟨by rfl, ?ykt44⟩) hHeld ?rkt44
     case ykt44 => (intro w' hSw; go_simp; (try with_reducible rfl))
     (try simp only [Act.put, sL])
     refine wpAnyH_done (by kernel_rfl) ?_ _
     go_wp2_with fail
     go_meet
     exact ⟨W0.heap.size, rfl, rfl, PU.1, OB.out, OL.out, HB.out, hHeld⟩
   case rest =>
   obtain ⟨b1, rfl, rfl, v1b, ob1, ol1, hb1, g1⟩ := hcut
   have V1 := hide v1b
   obtain ⟨gb, nb, cb, rfl⟩ := shp_sl ob1.shp
   obtain ⟨gh, nh, ch, rfl⟩ := shp_sl ol1.shp
   have B1 := hide ob1
   have O1 := hide ol1
   have DT1 := hide (DT0.out.keep g1)
   have TB1 := hide (TB0.out.keep g1)
   have FR1 := hide (fun wr' (g : wc.grownBy wr' none) => FR.out wr' (grown_none g1 g))
   have HB1 := hide hb1
   clear v1b ob1 ol1 hb1 A K0 K1 ES GR TB0 DT0 FR
   have DOE := hide (fun wx (g : wc.grownBy wx none) bf hI sh => DOE0.out Z wx (DT1.out.dk.keep g) (grown_none DT1.out.gr g) bf hI sh)
   have OE := hide (fun wx w' x q => OE0.out Z wx w' x q)
   have ZL := hide (show ∀ b, Z b → b < wc.heap.size from DT1.out.dk.zl)
   clear DOE0 OE0
   generalize hs1 : (⟨X, t1, MM, u0⟩ : Ses) = s1 at *
   generalize hW1 : wc = W1 at *
   clear hW1 hs1
   go_upto_region 10 with fail
   go_cut [14] from 37 to 106 (fun s14 wx => AnR W1 d voice Z s1 BB HH s14 wx)
   case first =>
    clear SP3 D ER Y0 Y1 DML EML EL80 DL80 HL80 X0 X1 MML DOD OED DOR OER DT1 CM AM AX CE AE CX EL XL ZM hN12 hN2 hc63 hc hc' hv0 hv1 B1 O1 V1 hz hy ZLb LTB DT0L DTL HB1
    refine wp_region_held_drew (S := fun u => BlkV u bt 60 [.slice av nv cv, .bool tr, .int .i64 tf, .int .i64 ta, .int .i64 tm]) (by kernel_rfl) (TB1.out.keep (gw_start _)) (fun hHeld => ?_)
    refine wpAnyH_take (i := 0) (v := ?vkd1) rfl (by kernel_rfl) (by kernel_rfl) (by kernel_rfl) (fun _ _ _ h => h) (Or.inl ⟨by rfl, ?ykd1⟩) hHeld ?rkd1
    case ykd1 => (intro w' hSw; go_simp; (try with_reducible rfl))
    (try simp only [Act.put, sL])
    refine wpAnyH_take (i := 1) (v := ?vkd2) rfl (by kernel_rfl) (by kernel_rfl) (by kernel_rfl) (fun _ _ _ h => h) (Or.inl ⟨by rfl, ?ykd2⟩) hHeld ?rkd2
    case ykd2 => (intro w' hSw; go_simp; (try with_reducible rfl))
    (try simp only [Act.put, sL])
    refine wpAnyH_take (i := 2) (v := ?vkd3) rfl (by kernel_rfl) (by kernel_rfl) (by kernel_rfl) (fun _ _ _ h => h) (Or.inl ⟨by rfl, ?ykd3⟩) hHeld ?rkd3
    case ykd3 => (intro w' hSw; go_simp; (try with_reducible rfl))
    (try simp only [Act.put, sL])
    refine wpAnyH_take (i := 3) (v := .slice av nv cv) rfl (by kernel_rfl) (by kernel_rfl) (by kernel_rfl) (fun _ _ _ h => h) (Or.inl ⟨by rfl, ?ykd4⟩) hHeld ?rkd4
    case ykd4 => (intro w' hSw; have cc := BlkV.cell hSw 0; simp at cc; go_simp; (try with_reducible rfl))
    (try simp only [Act.put, sL])
    refine wpAnyH_take (i := 5) (v := ?vkd5) rfl (by kernel_rfl) (by kernel_rfl) (by kernel_rfl) (fun _ _ _ h => h) (Or.inl ⟨by rfl, ?ykd5⟩) hHeld ?rkd5
    case ykd5 => (intro w' hSw; go_simp; (try with_reducible rfl))
    (try simp only [Act.put, sL])
    refine wpAnyH_take (i := 6) (v := .bool tr) rfl (by kernel_rfl) (by kernel_rfl) (by kernel_rfl) (fun _ _ _ h => h) (Or.inl ⟨by rfl, ?ykd6⟩) hHeld ?rkd6
    case ykd6 => (intro w' hSw; have cc := BlkV.cell hSw 1; simp at cc; go_simp; (try with_reducible rfl))
    (try simp only [Act.put, sL])
    refine wpAnyH_ready (rs := [4, 9]) (by kernel_rfl) (by simp) (AllReadyH.cons rfl (fun K hK => ?gkd7) (AllReadyH.cons rfl (fun K hK => ?gkd8) AllReadyH.nil))
    case gkd7 =>
     (try simp only [Act.put, sL])
     go_simp
     refine (FR1.out _ (gw_start W1)).mono ?_
     rintro e wkd9 ⟨bf, rfl, hbk, hbf, gkd9⟩
     have OF := hide hbk
     have Gkd9 := hide (grown_none (gw_start W1) gkd9)
     clear gkd9 hbk hbf
     go_wp2_with fail
     refine hK.out _ _ (TB1.out.keep Gkd9.out) (fun hHeld => ?_)
     clear hK
     (try simp only [Act.put, sL])
     refine wpAnyH_take (i := 7) (v := clV ⟨2, voice, tr, fl, []⟩ (.slice (some ⟨bf, 0, none⟩) 80 80) (.slice none 0 0)) rfl (by kernel_rfl) (by kernel_rfl) (by kernel_rfl) (fun _ _ _ h => h) (Or.inl ⟨by rfl, ?ykd10⟩) hHeld ?rkd10
     case ykd10 => (intro w' hSw; go_simp; (try rfl))
     (try simp only [Act.put, sL])
     refine wpAnyH_ready (rs := [8, 9]) (by kernel_rfl) (by simp) (AllReadyH.cons rfl (fun K hK => ?gkd11) (AllReadyH.cons rfl (fun K hK => ?gkd12) AllReadyH.nil))
     case gkd11 =>
      (try simp only [Act.put, sL])
      go_simp
      have DC := hide (DOE.out _ Gkd9.out _ (ints80 OF.out FLn.out) (SH80.out _ _ FLn.out))
      unfold clV at DC
      (try unfold clV)
      refine DC.out.mono ?_
      rintro x wkd13 qkd13
      obtain ⟨a, m, kk, a', m', k', rfl, q1, q2, Z', r, q3, q4, q5, q6⟩ := OE.out _ _ _ qkd13
      have Q1 := hide (q1.base (b' := W1.heap.size) (World.grownBy.size Gkd9.out))
      have Q2 := hide (q2.base (b' := W1.heap.size) (World.grownBy.size Gkd9.out))
      have Q3 := hide q3
      have Q4 := hide (show ∀ b, Z' b → Z b ∨ W1.heap.size ≤ b from fun b z => (q4 b z).imp id (fun h => Nat.le_trans (World.grownBy.size Gkd9.out) h))
      have Q5 := hide (grown_trans Gkd9.out q5 r (fun i e => by cases e) (fun i e _ => e))
      have Q6 := hide q6
      have TBx := hide (blk_keepR TB1.out Q5.out (fun b e q => NZT.out (q ▸ q6 b e)))
      have LG := hide (World.grownBy.size Q5.out)
      clear qkd13 q1 q2 q3 q4 q5 q6 DC DOE OE OF
      unfold ansV
      go_wp2_with fail
      refine hK.out _ _ TBx.out (fun hHeld => ?_)
      clear hK
      (try simp only [Act.put, sL])
      refine wpAnyH_ready (rs := [9]) (by kernel_rfl) (by simp) (AllReadyH.cons rfl (fun K hK => ?_) AllReadyH.nil)
      (try simp only [Act.put, sL])
      go_simp
      go_wp2_with fail
      have NZA := hide (show ¬ Z' wkd13.heap.size from fun z => by have := DkW.zl Q3.out _ z; omega)
      have NA := hide (ans_new wkd13 0 0 (.slice none 0 0) (.slice none 0 0))
      have LA := hide (show W1.heap.size ≤ wkd13.heap.size from LG.out)
      have GN := grown_alloc wkd13 (.cells (ansC 0 0 (.slice none 0 0) (.slice none 0 0)).toArray 34) none
      have Q1 := hide (Q1.out.keep GN)
      have Q2 := hide (Q2.out.keep GN)
      have Q3 := hide (Q3.out.keep GN)
      have Q5 := hide (grown_trans Q5.out GN r (fun i e _ => e) (fun i e => by cases e))
      have TBx := hide (TBx.out.keep GN)
      clear GN
      refine hK.out _ _ TBx.out (fun hHeld => ?_)
      clear hK
      generalize wkd13.alloc (.cells (ansC 0 0 (.slice none 0 0) (.slice none 0 0)).toArray 34) = wzkd14 at *
      (try simp only [Act.put, sL])
      refine wpAnyH_ready (rs := [10]) (by kernel_rfl) (by simp) (AllReadyH.cons rfl (fun K hK => ?_) AllReadyH.nil)
      (try simp only [Act.put, sL])
      have P := ansP (en' := 0) (v' := voice) (vb' := .slice a m kk) (vl' := .slice a' m' k') NA.out
      refine step_store_v rfl 34 _ _ rfl (wkd13.heap.size) 0 34 (ansC 0 0 (.slice none 0 0) (.slice none 0 0)) (ansC 0 voice (.slice a m kk) (.slice a' m' k')) rfl rfl NA.out (by simp [ansC_len]) size4a (ansC_one 0 voice a m kk a' m' k') ?_
      have RES := hide (show AnR W1 d voice Z s1 BB HH (.pointer (some ⟨wkd13.heap.size, 0, none⟩)) _ from ⟨wkd13.heap.size, a, m, kk, a', m', k', rfl, P.1, Q1.out.keepBut P.2 NA.out (by decide), Q2.out.keepBut P.2 NA.out (by decide), LA.out, Z', r, Q3.out.keepR P.2 (fun y e z => by cases e; exact NZA.out z), Q4.out, grown_trans Q5.out P.2 r (fun i e _ => e) (fun i e hi => by cases e; have := LA.out; omega), Q6.out⟩)
      have TBy := hide (TBx.out.keepBut P.2 (by have := LA.out; have := TB1.out.lt; omega))
      clear P
      refine hK.out _ _ TBy.out (fun hHeld => ?_)
      clear hK
      (try simp only [Act.put, sL])
      refine wpAnyH_done (by kernel_rfl) ?_ _
      go_wp2_with fail
      go_meet
      exact RES.out
     case gkd12 =>
      (try simp only [Act.put, sL])
      go_simp
      go_wp2_with fail
      have Gkd16 := hide (show W1.grownBy (wkd9.alloc (.cells (ansC 0 0 (.slice none 0 0) (.slice none 0 0)).toArray 34)) none from grown_none Gkd9.out (grown_alloc wkd9 (.cells (ansC 0 0 (.slice none 0 0) (.slice none 0 0)).toArray 34) none))
      have NA := hide (show BlkV (wkd9.alloc (.cells (ansC 0 0 (.slice none 0 0) (.slice none 0 0)).toArray 34)) wkd9.heap.size 34 (ansC 0 0 (.slice none 0 0) (.slice none 0 0)) from ans_new wkd9 0 0 (.slice none 0 0) (.slice none 0 0))
      have LA := hide (show W1.heap.size ≤ wkd9.heap.size from by first | exact Nat.le_refl _ | exact World.grownBy.size Gkd9.out)
      have OF := hide (OF.out.keep (grown_alloc wkd9 (.cells (ansC 0 0 (.slice none 0 0) (.slice none 0 0)).toArray 34) none))
      refine hK.out _ _ (TB1.out.keep Gkd16.out) (fun hHeld => ?_)
      clear hK
      generalize wkd9.alloc (.cells (ansC 0 0 (.slice none 0 0) (.slice none 0 0)).toArray 34) = wzkd16 at *
      (try simp only [Act.put, sL])
      refine wpAnyH_ready (rs := [8]) (by kernel_rfl) (by simp) (AllReadyH.cons rfl (fun K hK => ?_) AllReadyH.nil)
      (try simp only [Act.put, sL])
      go_simp
      have DC := hide (DOE.out _ Gkd16.out _ (ints80 OF.out FLn.out) (SH80.out _ _ FLn.out))
      unfold clV at DC
      (try unfold clV)
      refine DC.out.mono ?_
      rintro x wkd17 qkd17
      obtain ⟨a, m, kk, a', m', k', rfl, q1, q2, Z', r, q3, q4, q5, q6⟩ := OE.out _ _ _ qkd17
      have Q1 := hide (q1.base (b' := W1.heap.size) (World.grownBy.size Gkd16.out))
      have Q2 := hide (q2.base (b' := W1.heap.size) (World.grownBy.size Gkd16.out))
      have Q3 := hide q3
      have Q4 := hide (show ∀ b, Z' b → Z b ∨ W1.heap.size ≤ b from fun b z => (q4 b z).imp id (fun h => Nat.le_trans (World.grownBy.size Gkd16.out) h))
      have Q5 := hide (grown_trans Gkd16.out q5 r (fun i e => by cases e) (fun i e _ => e))
      have Q6 := hide q6
      have TBx := hide (blk_keepR TB1.out Q5.out (fun b e q => NZT.out (q ▸ q6 b e)))
      have LG := hide (World.grownBy.size Q5.out)
      have NZA := hide (show ¬ Z' (wkd9.heap.size) from fun z => by
       rcases q4 _ z with h | h
       ·have := ZL.out _ h; have := LA.out; omega
       ·have := NA.out.lt; omega)
      have NA := hide (blk_keepR NA.out q5 (fun b e q => by have := ZL.out _ (q6 b e); have := LA.out; omega))
      clear qkd17 q1 q2 q3 q4 q5 q6 DC DOE OE OF
      unfold ansV
      go_wp2_with fail
      refine hK.out _ _ TBx.out (fun hHeld => ?_)
      clear hK
      (try simp only [Act.put, sL])
      refine wpAnyH_ready (rs := [10]) (by kernel_rfl) (by simp) (AllReadyH.cons rfl (fun K hK => ?_) AllReadyH.nil)
      (try simp only [Act.put, sL])
      have P := ansP (en' := 0) (v' := voice) (vb' := .slice a m kk) (vl' := .slice a' m' k') NA.out
      refine step_store_v rfl 34 _ _ rfl (wkd9.heap.size) 0 34 (ansC 0 0 (.slice none 0 0) (.slice none 0 0)) (ansC 0 voice (.slice a m kk) (.slice a' m' k')) rfl rfl NA.out (by simp [ansC_len]) size4a (ansC_one 0 voice a m kk a' m' k') ?_
      have RES := hide (show AnR W1 d voice Z s1 BB HH (.pointer (some ⟨wkd9.heap.size, 0, none⟩)) _ from ⟨wkd9.heap.size, a, m, kk, a', m', k', rfl, P.1, Q1.out.keepBut P.2 NA.out (by decide), Q2.out.keepBut P.2 NA.out (by decide), LA.out, Z', r, Q3.out.keepR P.2 (fun y e z => by cases e; exact NZA.out z), Q4.out, grown_trans Q5.out P.2 r (fun i e _ => e) (fun i e hi => by cases e; have := LA.out; omega), Q6.out⟩)
      have TBy := hide (TBx.out.keepBut P.2 (by have := LA.out; have := TB1.out.lt; omega))
      clear P
      refine hK.out _ _ TBy.out (fun hHeld => ?_)
      clear hK
      (try simp only [Act.put, sL])
      refine wpAnyH_done (by kernel_rfl) ?_ _
      go_wp2_with fail
      go_meet
      exact RES.out
    case gkd8 =>
     (try simp only [Act.put, sL])
     go_simp
     go_wp2_with fail
     have Gkd19 := hide (show W1.grownBy ((W1.alloc (.cells (ansC 0 0 (.slice none 0 0) (.slice none 0 0)).toArray 34)).drew) none from grown_none (gw_start W1) (grown_alloc W1.drew (.cells (ansC 0 0 (.slice none 0 0) (.slice none 0 0)).toArray 34) none))
     have NA := hide (show BlkV ((W1.alloc (.cells (ansC 0 0 (.slice none 0 0) (.slice none 0 0)).toArray 34)).drew) W1.heap.size 34 (ansC 0 0 (.slice none 0 0) (.slice none 0 0)) from ans_new W1.drew 0 0 (.slice none 0 0) (.slice none 0 0))
     have LA := hide (show W1.heap.size ≤ W1.heap.size from by first | exact Nat.le_refl _ | exact World.grownBy.size (gw_start W1))
     refine hK.out _ _ (TB1.out.keep Gkd19.out) (fun hHeld => ?_)
     clear hK
     generalize (W1.alloc (.cells (ansC 0 0 (.slice none 0 0) (.slice none 0 0)).toArray 34)).drew = wzkd19 at *
     (try simp only [Act.put, sL])
     refine wpAnyH_ready (rs := [4]) (by kernel_rfl) (by simp) (AllReadyH.cons rfl (fun K hK => ?_) AllReadyH.nil)
     (try simp only [Act.put, sL])
     go_simp
     refine (FR1.out _ Gkd19.out).mono ?_
     rintro e wkd20 ⟨bf, rfl, hbk, hbf, gkd20⟩
     have OF := hide hbk
     have Gkd20 := hide (grown_none Gkd19.out gkd20)
     have NA := hide (NA.out.keep gkd20)
     clear gkd20 hbk hbf
     go_wp2_with fail
     refine hK.out _ _ (TB1.out.keep Gkd20.out) (fun hHeld => ?_)
     clear hK
     (try simp only [Act.put, sL])
     refine wpAnyH_take (i := 7) (v := clV ⟨2, voice, tr, fl, []⟩ (.slice (some ⟨bf, 0, none⟩) 80 80) (.slice none 0 0)) rfl (by kernel_rfl) (by kernel_rfl) (by kernel_rfl) (fun _ _ _ h => h) (Or.inl ⟨by rfl, ?ykd21⟩) hHeld ?rkd21
     case ykd21 => (intro w' hSw; go_simp; (try rfl))
     (try simp only [Act.put, sL])
     refine wpAnyH_ready (rs := [8]) (by kernel_rfl) (by simp) (AllReadyH.cons rfl (fun K hK => ?_) AllReadyH.nil)
     (try simp only [Act.put, sL])
     go_simp
     have DC := hide (DOE.out _ Gkd20.out _ (ints80 OF.out FLn.out) (SH80.out _ _ FLn.out))
     unfold clV at DC
     (try unfold clV)
     refine DC.out.mono ?_
     rintro x wkd22 qkd22
     obtain ⟨a, m, kk, a', m', k', rfl, q1, q2, Z', r, q3, q4, q5, q6⟩ := OE.out _ _ _ qkd22
     have Q1 := hide (q1.base (b' := W1.heap.size) (World.grownBy.size Gkd20.out))
     have Q2 := hide (q2.base (b' := W1.heap.size) (World.grownBy.size Gkd20.out))
     have Q3 := hide q3
     have Q4 := hide (show ∀ b, Z' b → Z b ∨ W1.heap.size ≤ b from fun b z => (q4 b z).imp id (fun h => Nat.le_trans (World.grownBy.size Gkd20.out) h))
     have Q5 := hide (grown_trans Gkd20.out q5 r (fun i e => by cases e) (fun i e _ => e))
     have Q6 := hide q6
     have TBx := hide (blk_keepR TB1.out Q5.out (fun b e q => NZT.out (q ▸ q6 b e)))
     have LG := hide (World.grownBy.size Q5.out)
     have NZA := hide (show ¬ Z' (W1.heap.size) from fun z => by
      rcases q4 _ z with h | h
      ·have := ZL.out _ h; have := LA.out; omega
      ·have := NA.out.lt; omega)
     have NA := hide (blk_keepR NA.out q5 (fun b e q => by have := ZL.out _ (q6 b e); have := LA.out; omega))
     clear qkd22 q1 q2 q3 q4 q5 q6 DC DOE OE OF
     unfold ansV
     go_wp2_with fail
     refine hK.out _ _ TBx.out (fun hHeld => ?_)
     clear hK
     (try simp only [Act.put, sL])
     refine wpAnyH_ready (rs := [10]) (by kernel_rfl) (by simp) (AllReadyH.cons rfl (fun K hK => ?_) AllReadyH.nil)
     (try simp only [Act.put, sL])
     have P := ansP (en' := 0) (v' := voice) (vb' := .slice a m kk) (vl' := .slice a' m' k') NA.out
     refine step_store_v rfl 34 _ _ rfl (W1.heap.size) 0 34 (ansC 0 0 (.slice none 0 0) (.slice none 0 0)) (ansC 0 voice (.slice a m kk) (.slice a' m' k')) rfl rfl NA.out (by simp [ansC_len]) size4a (ansC_one 0 voice a m kk a' m' k') ?_
     have RES := hide (show AnR W1 d voice Z s1 BB HH (.pointer (some ⟨W1.heap.size, 0, none⟩)) _ from ⟨W1.heap.size, a, m, kk, a', m', k', rfl, P.1, Q1.out.keepBut P.2 NA.out (by decide), Q2.out.keepBut P.2 NA.out (by decide), LA.out, Z', r, Q3.out.keepR P.2 (fun y e z => by cases e; exact NZA.out z), Q4.out, grown_trans Q5.out P.2 r (fun i e _ => e) (fun i e hi => by cases e; have := LA.out; omega), Q6.out⟩)
     have TBy := hide (TBx.out.keepBut P.2 (by have := LA.out; have := TB1.out.lt; omega))
     clear P
     refine hK.out _ _ TBy.out (fun hHeld => ?_)
     clear hK
     (try simp only [Act.put, sL])
     refine wpAnyH_done (by kernel_rfl) ?_ _
     go_wp2_with fail
     go_meet
     exact RES.out
   case rest =>
   obtain ⟨ba, a, m, kk, a', m', k', rfl, an, q1, q2, hba, Z5, r, q3, q4, q5, q6⟩ := hcut
   have AN2 := hide an
   have DT2 := hide (DT1.out.step q3 q4 (Nat.le_refl _) q5 q6)
   have lt2 : ∀ b, r = some b → b < bt := fun b e => ZLb.out b (q6 b e)
   have LT1 : bt < W0.heap.size := LTB.out
   have V2 := hide (blk_keepR V1.out q5 (fun b e q => by have := lt2 b e; have := HB1.out; omega))
   have B2 := hide (ownB_keepR B1.out q5 (fun b e => by have := lt2 b e; omega))
   have O2 := hide (own_keepR O1.out q5 (fun b e => by have := lt2 b e; omega))
   have TB2 := hide (blk_keepR TB1.out q5 (fun b e q => by have := lt2 b e; omega))
   have SA := hide (topSameA_any 0 voice a m kk a' m' k' gb nb cb gh nh ch BB HH wc q1.byts q1.shp q2.ints B2.out.byts B2.out.shp O2.out.ints (by rw [HL80.out]; omega))
   have bb := build_anB voice gb nb cb gh nh ch
   clear an q1 q2 q3 q4 q5 q6 lt2 LT1 V1 B1 O1 DT1 TB1 FR1
   have ZL5 := hide (show ∀ b, Z5 b → b < wc.heap.size from DT2.out.dk.zl)
   unfold ansV at SA bb
   go_upto_region 11 with fail
   generalize hwc : wc = W2 at *
   clear hwc
   go_wp2_with (first | refine wpList_load_v rfl 34 _ rfl ba 0 4 rfl 34 (ansC 0 voice (.slice a m kk) (.slice a' m' k')) AN2.out _ Tryz.underlying34 rfl size4a (by simp [ansC_len]) _ rfl ?_)
   refine SA.out.mono ?_
   rintro x W3 ⟨rfl, g3⟩
   have DT3 := hide (DT2.out.keep g3)
   have V3 := hide (V2.out.keep g3)
   have B3 := hide (B2.out.keep g3)
   have TB3 := hide (TB2.out.keep g3)
   have DT4 := hide (DT3.out.setE (e' := X) (t' := t1) EL.out XL.out)
   have B4 := hide (B3.out.keepLt (DT3.out.es.putAll (m := X) (t := t1) EL.out XL.out).2 (by have := DT0L.out; have := LTB.out; omega))
   have TB4 := hide (TB3.out.keepBut (DT3.out.es.putAll (m := X) (t := t1) EL.out XL.out).2 (by have := DT0L.out; have := LTB.out; omega))
   have ZL4 := hide (show ∀ b, Z5 b → b < W3.heap.size from fun b z => Nat.lt_of_lt_of_le (ZL5.out b z) (World.grownBy.size g3))
   clear SA g3 DT2 V2 B2 O2 TB2 AN2 bb B3 TB3 ZL5
   go_upto_region 14 with (first | refine wpList_load_v rfl 55 _ rfl b1 0 226 rfl 55 (encC X t1) V3.out _ Tryz.underlying55 rfl size226 (by rw [CX.out]; omega) _ AX.out ?_ | refine wpList_store_v rfl 55 _ _ rfl bs 0 55 (encC E t0) (encC X t1) rfl rfl DT3.out.es (by rw [CE.out, CX.out]; omega) (by rw [CX.out]; exact size226) (encC_one _ _) ?_)
   (try simp only [Act.put])
   have ZL5 := hide (show ∀ b, Z5 b → b < (putV W3 bs 0 (encC X t1)).heap.size from DT4.out.dk.zl)
   clear DT3 V3 ZL4
   generalize putV W3 bs 0 (encC X t1) = W5 at *
   have DT5 := DT4
   have B5 := B4
   have kt2 := BlkV.cell TB4.out 2
   simp at kt2
   clear DT4 B4 TB4
   go_wp2_with fail
   refine (SP3.out _).mono ?_
   rintro x wq ⟨rfl, hq⟩
   subst wq
   clear SP3 kt2
   by_cases f0 : f3 = 0
   ·have YY := hide (Y0.out f0)
    have hb0 : (f3 == 0) = true := by simp [f0]
    have NML := DML
    have CN := hide (memC_len DML.out du)
    have AN := hide (BlkM.all du DML.out)
    clear Y0 Y1 f0 ER EML EL80 DOR OER
    generalize DM = NM at *
    generalize du = u1 at *
    generalize DK = KL at *
    go_upto_region 15 with fail
    have D0 := hide (D.out _ W5 DT5.out.gr B5.out.byts B5.out.shp)
    go_wp2_with (first | refine wpList_load_v rfl 53 _ rfl (bs + 1) 0 102 rfl 53 (memC MM u0) DT5.out.ms _ Tryz.underlying53 rfl size102 (by rw [CM.out]; omega) _ AM.out ?_)
    refine D0.out.mono ?_
    rintro x W6 ⟨v6, rfl, o6, g6⟩
    obtain ⟨ak, nk, ck, rfl⟩ := shp_sl o6.shp
    have FB := hide (fresh_mem W6 NM u1 NML.out)
    have GB := hide (grown_none g6 FB.out.2.2)
    have DT7 := hide (DT5.out.keep GB.out)
    have K7 := hide (o6.keep FB.out.2.2)
    have B7 := hide (B5.out.keep GB.out)
    have LB7 := hide (show W5.heap.size ≤ W6.heap.size from World.grownBy.size g6)
    clear D0 g6 o6 GB
    (try unfold memV)
    go_upto_region 16 with (first | refine wpList_store_v rfl 53 _ _ rfl W6.heap.size 0 53 (memC (zeros 101) false) (memC NM u1) rfl rfl FB.out.1 (by rw [ZM.out, CN.out]; omega) (by rw [CN.out]; exact size102) (memC_one _ _) ?_)
    (try simp only [Act.put])
    have N7 := hide FB.out.2.1
    clear FB DT5 B5
    generalize putV (W6.alloc (.cells (memC (zeros 101) false).toArray 53)) W6.heap.size 0 (memC NM u1) = W7 at *
    generalize W6.heap.size = bn at *
    have D7 := hide (DOD.out Z5 W7 DT7.out.dk DT7.out.gr _ _ _ B7.out.byts B7.out.shp)
    have LZ7 := hide (show ∀ b, Z5 b → b < W5.heap.size from ZL5.out)
    have bd := build_decC voice gb nb cb BB
    have bl := build_anL voice ak nk ck
    unfold clV at D7 bd
    unfold ansV at bl
    go_wp2_with fail
    refine D7.out.mono ?_
    rintro x W8 q8
    obtain ⟨a, m, kk, a', m', k', rfl, q1, q2, Z', r, q3, q4, q5, q6⟩ := OED.out Z5 W7 x W8 q8
    have DT8 := hide (DT7.out.step q3 q4 (Nat.le_refl _) q5 q6)
    have K8 := hide (own_keepR K7.out q5 (fun b e => LZ7.out b (q6 b e)))
    have N8 := hide (blk_keepR N7.out q5 (fun b e q => by have := LZ7.out b (q6 b e); have := LB7.out; omega))
    have SA := hide (topSameA_any 0 voice a m kk a' m' k' none 0 0 ak nk ck [] KL W8 q1.byts q1.shp q2.ints (bytsNil W8) (.inl rfl) K8.out.ints (by rw [DL80.out]; omega))
    clear q8 q1 q2 q3 q4 q5 q6 D7 DT7 K7 B7 N7 K8 bd
    unfold ansV at SA ⊢
    go_wp2_with fail
    refine SA.out.mono ?_
    rintro x W9 ⟨rfl, g9⟩
    have DT9 := hide (DT8.out.keep g9)
    have N9 := hide (N8.out.keep g9)
    have DTA := hide (DT9.out.setM (m' := NM) (u' := u1) MML.out NML.out)
    clear SA DT8 N8 g9 bl
    go_upto_region 18 with fail
    go_upto_region 23 with (first | refine wpList_load_v rfl 53 _ rfl bn 0 102 rfl 53 (memC NM u1) N9.out _ Tryz.underlying53 rfl size102 (by rw [CN.out]; omega) _ AN.out ?_ | refine wpList_store_v rfl 53 _ _ rfl (bs + 1) 0 53 (memC MM u0) (memC NM u1) rfl rfl DT9.out.ms (by rw [CM.out, CN.out]; omega) (by rw [CN.out]; exact size102) (memC_one _ _) ?_)
    (try simp only [Act.put])
    clear N9 DT9
    generalize putV W9 (bs + 1) 0 (memC NM u1) = WA at *
    go_wp2_with fail
    have RL : ∃ (j : Nat) (Z : Nat → Prop), Value.int .i64 ((k : Int) + 1) = .int .i64 j ∧ j ≤ N ∧ Hid (DtR w d bs voice (syE L j) (feM L j) (syS L j) (feT L j) (sesK L j) Z WA) := ⟨k + 1, Z', by go_num, by omega, by unfold sesK; rw [X0.out, X1.out, YY.out.1, YY.out.2]; exact DTA.out⟩
    go_roundw
    case rel => exact RL
    case measure => simp [intOf]; omega
   ·have YY := hide (Y1.out f0)
    have hb0 : (f3 == 0) = false := beq_eq_false_iff_ne.2 f0
    have NML := EML
    have CN := hide (memC_len EML.out eu)
    have AN := hide (BlkM.all eu EML.out)
    clear Y0 Y1 f0 D DML DL80 DOD OED
    generalize EM = NM at *
    generalize eu = u1 at *
    generalize EK = KL at *
    go_upto_region 19 with fail
    have D0 := hide (ER.out W5 DT5.out.gr)
    go_wp2_with (first | refine wpList_load_v rfl 53 _ rfl (bs + 1) 0 102 rfl 53 (memC MM u0) DT5.out.ms _ Tryz.underlying53 rfl size102 (by rw [CM.out]; omega) _ AM.out ?_)
    refine D0.out.mono ?_
    rintro x W6 ⟨v6, rfl, o6, g6⟩
    obtain ⟨ak, nk, ck, rfl⟩ := shp_sl o6.shp
    have FB := hide (fresh_mem W6 NM u1 NML.out)
    have GB := hide (grown_none g6 FB.out.2.2)
    have DT7 := hide (DT5.out.keep GB.out)
    have K7 := hide (o6.keep FB.out.2.2)
    have B7 := hide (B5.out.keep GB.out)
    have LB7 := hide (show W5.heap.size ≤ W6.heap.size from World.grownBy.size g6)
    clear D0 g6 o6 GB
    (try unfold memV)
    go_upto_region 20 with (first | refine wpList_store_v rfl 53 _ _ rfl W6.heap.size 0 53 (memC (zeros 101) false) (memC NM u1) rfl rfl FB.out.1 (by rw [ZM.out, CN.out]; omega) (by rw [CN.out]; exact size102) (memC_one _ _) ?_)
    (try simp only [Act.put])
    have N7 := hide FB.out.2.1
    clear FB DT5 B5
    generalize putV (W6.alloc (.cells (memC (zeros 101) false).toArray 53)) W6.heap.size 0 (memC NM u1) = W7 at *
    generalize W6.heap.size = bn at *
    have D7 := hide (DOR.out Z5 W7 DT7.out.dk DT7.out.gr)
    have LZ7 := hide (show ∀ b, Z5 b → b < W5.heap.size from ZL5.out)
    have bd := build_ersC voice
    have bl := build_anL voice ak nk ck
    unfold clV at D7 bd
    unfold ansV at bl
    go_wp2_with fail
    refine D7.out.mono ?_
    rintro x W8 q8
    obtain ⟨a, m, kk, a', m', k', rfl, q1, q2, Z', r, q3, q4, q5, q6⟩ := OER.out Z5 W7 x W8 q8
    have DT8 := hide (DT7.out.step q3 q4 (Nat.le_refl _) q5 q6)
    have K8 := hide (own_keepR K7.out q5 (fun b e => LZ7.out b (q6 b e)))
    have N8 := hide (blk_keepR N7.out q5 (fun b e q => by have := LZ7.out b (q6 b e); have := LB7.out; omega))
    have SA := hide (topSameA_any 0 voice a m kk a' m' k' none 0 0 ak nk ck [] KL W8 q1.byts q1.shp q2.ints (bytsNil W8) (.inl rfl) K8.out.ints (by rw [EL80.out]; omega))
    clear q8 q1 q2 q3 q4 q5 q6 D7 DT7 K7 B7 N7 K8 bd
    unfold ansV at SA ⊢
    go_wp2_with fail
    refine SA.out.mono ?_
    rintro x W9 ⟨rfl, g9⟩
    have DT9 := hide (DT8.out.keep g9)
    have N9 := hide (N8.out.keep g9)
    have DTA := hide (DT9.out.setM (m' := NM) (u' := u1) MML.out NML.out)
    clear SA DT8 N8 g9 bl
    go_upto_region 22 with fail
    go_upto_region 23 with (first | refine wpList_load_v rfl 53 _ rfl bn 0 102 rfl 53 (memC NM u1) N9.out _ Tryz.underlying53 rfl size102 (by rw [CN.out]; omega) _ AN.out ?_ | refine wpList_store_v rfl 53 _ _ rfl (bs + 1) 0 53 (memC MM u0) (memC NM u1) rfl rfl DT9.out.ms (by rw [CM.out, CN.out]; omega) (by rw [CN.out]; exact size102) (memC_one _ _) ?_)
    (try simp only [Act.put])
    clear N9 DT9
    generalize putV W9 (bs + 1) 0 (memC NM u1) = WA at *
    go_wp2_with fail
    have RL : ∃ (j : Nat) (Z : Nat → Prop), Value.int .i64 ((k : Int) + 1) = .int .i64 j ∧ j ≤ N ∧ Hid (DtR w d bs voice (syE L j) (feM L j) (syS L j) (feT L j) (sesK L j) Z WA) := ⟨k + 1, Z', by go_num, by omega, by unfold sesK; rw [X0.out, X1.out, YY.out.1, YY.out.2]; exact DTA.out⟩
    go_roundw
    case rel => exact RL
    case measure => simp [intOf]; omega
  ·have IS := hide hI.out
   have E5 := hide (fun wx (g : wr.grownBy wx none) => DO.out d (putS (fun _ => none) voice (some (sesK L k))) 1 Z ⟨5, voice, false, [], []⟩ none 0 0 none 0 0 wx (IS.out.dk.keep g) (grown_none IS.out.gr g) (nilOk wx 5 voice ⟨by omega, by omega⟩ ⟨by omega, by omega⟩ false))
   have O5 := hide (fun wx x w' (q : DkE wx d (putS (fun _ => none) voice (some (sesK L k))) 1 Z ⟨5, voice, false, [], []⟩ voice x w') => one5 q)
   have bc := build_cloC voice
   clear hI PC PD PE HT DO
   generalize sesK L k = sk at *
   generalize syE L k = E at *
   generalize syS L k = t0 at *
   generalize feM L k = MM at *
   generalize feT L k = u0 at *
   go_upto_region 24 with fail
   go_wp2_with fail
   refine (AL.out wr IS.out.gr).mono ?_
   rintro x Wa ⟨rfl, ga⟩
   have C5 := hide (E5.out Wa ga)
   have O6 := hide (fun x w' q => O5.out Wa x w' q)
   have GS := hide (grown_none IS.out.gr ga)
   clear E5 O5 ga AL
   unfold clV at C5 bc
   go_wp2_with fail
   refine C5.out.mono ?_
   rintro x Wb qb
   obtain ⟨a, m, kk, a', m', k', rfl, _, _, Z', r, q3, q4, q5, q6⟩ := O6.out x Wb qb
   have FF := hide (F.out Wb (grown_own' GS.out q5 (fun b e => IS.out.zb b (q6 b e))))
   have MM2 := hide (MN.out d _ 0 Z' Wb q3)
   have hfc := field_code 0 voice a m kk a' m' k'
   clear qb q3 q4 q5 q6 C5 O6 GS IS F MN
   unfold ansV
   go_wp2_with fail
   refine MM2.out.mono ?_
   rintro x Wd ⟨rfl, rfl⟩
   go_wp2_with fail
   exact FF.out
end Go.Proofs.YtdejpongekicdaaGreatDoor

/- CnpS -/
namespace Go.Proofs.YtdejpongekicdaaGreatDoor
open Go.RowKit
set_option linter.unusedVariables false
set_option linter.unusedSimpArgs false
set_option maxHeartbeats 2000000
theorem conWithin_any (x a b:Int)(w:World):Calls Tryz.prog 76 #[.int .i64 x,.int .i64 a,.int .i64 b] w (Ans w (.bool (decide (a≤x∧x≤b)))):=by
 by_cases h1:a≤x
 ·by_cases h2:x≤b
  ·rw[decide_eq_true (show a≤x∧x≤b from⟨h1,h2⟩)]
   go_enter Tryz.func76,Tryz.ntmps76
   go_wp2_with fail
   go_ret
   exact⟨rfl,rfl⟩
  ·rw[decide_eq_false (show ¬(a≤x∧x≤b)from fun h=>h2 h.2)]
   go_enter Tryz.func76,Tryz.ntmps76
   go_wp2_with fail
   go_ret
   exact⟨rfl,rfl⟩
 ·rw[decide_eq_false (show ¬(a≤x∧x≤b)from fun h=>h1 h.1)]
  go_enter Tryz.func76,Tryz.ntmps76
  go_wp2_with fail
  go_ret
  exact⟨rfl,rfl⟩
theorem conStopped_any (x:Int)(w:World):Calls Tryz.prog 235 #[.int .i64 x] w (Ans w (.int .i64 (c16 x))):=by
 have F:=hide (show ∀z,z=c16 x→Ans w (.int .i64 (c16 x)) (.returned (.int .i64 z)) w from fun z hz=>⟨by rw[hz],rfl⟩)
 generalize Ans w (.int .i64 (c16 x))=T at *
 go_enter Tryz.func235,Tryz.ntmps235
 go_wp2_with fail
 all_goals(refine F.out _ ?_;unfold c16;(repeat' split)<;>omega)
theorem conScaled_any (x g:Int)(h1:-4611686018427387904≤x*g)(h2:x*g≤4611686018427387904)(w:World):Calls Tryz.prog 236 #[.int .i64 x,.int .i64 g] w (Ans w (.int .i64 ((x*g+8192) / 16384))):=by
 have F:=hide (show Ans w (.int .i64 ((x*g+8192) / 16384)) (.returned (.int .i64 ((x*g+8192) / 16384))) w from⟨rfl,rfl⟩)
 generalize Ans w (.int .i64 ((x*g+8192) / 16384))=T at *
 go_enter Tryz.func236,Tryz.ntmps236
 go_wp2_with fail
 exact F.out
end Go.Proofs.YtdejpongekicdaaGreatDoor

/- CnpA -/
namespace Go.Proofs.YtdejpongekicdaaGreatDoor
open Go.RowKit
set_option linter.unusedVariables false
set_option linter.unusedSimpArgs false
set_option maxHeartbeats 2000000
def betB (lo hi:Int)(l:List Int):Bool:=l.all fun x=>decide (lo≤x)&&decide (x≤hi)
theorem betB_iff (lo hi:Int)(l:List Int):betB lo hi l=true↔∀i,i<l.length→lo≤nth l i∧nth l i≤hi:=by
 unfold betB
 rw[List.all_eq_true]
 constructor
 ·intro h i hi'
  have:=h l[i] (List.getElem_mem hi')
  simpa [nth,List.getD,hi'] using this
 ·intro h x hx
  obtain⟨i,hi',rfl⟩:=List.getElem_of_mem hx
  have:=h i hi'
  simpa [nth,List.getD,hi'] using this
theorem betB_refl (l:List Int):betB (-31000) 31000 (prt l 0 8)=true↔reflB l=true:=by
 rw[betB_iff,reflB_iff,prt_len]
 constructor
 ·intro h i hi;have:=h i hi;rwa [prt_nth _ _ _ _ hi,Nat.zero_add]at this
 ·intro h i hi;rw[prt_nth _ _ _ _ hi,Nat.zero_add];exact h i hi
theorem conAll_any (v:Value)(l:List Int)(lo hi:Int)(w:World)(h:Ints w v l)(hl:l.length≤1000000000000000000) :
  Calls Tryz.prog 75 #[v,.int .i64 lo,.int .i64 hi] w (Ans w (.bool (betB lo hi l))):=by
 obtain⟨ad,c,rfl,hc,hcell⟩:=h
 have Y:=hide (fun(hh:∀i,i<l.length→lo≤nth l i∧nth l i≤hi)=>(show Ans w (.bool (betB lo hi l)) (.returned (.bool true)) w from⟨by rw[(betB_iff lo hi l).2 hh],rfl⟩))
 have N:=hide (fun i (hi':i<l.length) (hh:¬(lo≤nth l i∧nth l i≤hi))=>(show Ans w (.bool (betB lo hi l)) (.returned (.bool false)) w from⟨by
  rcases hb:betB lo hi l with _|_
  ·rfl
  ·exact absurd ((betB_iff lo hi l).1 hb i hi') hh,rfl⟩))
 generalize Ans w (.bool (betB lo hi l))=T at *
 go_enter Tryz.func75,Tryz.ntmps75
 go_wp2_with fail
 go_loop [11] (fun i=>∃k:Nat,i=.int .i64 k∧k≤l.length∧Hid (∀i,i<k→lo≤nth l i∧nth l i≤hi)) (fun i=>l.length-(intOf i).toNat)
 case atStart=>exact⟨0,rfl,Nat.zero_le _,fun i hi=>by omega⟩
 case round=>
  obtain⟨k,rfl,hk,hG⟩:=hrel
  by_cases hkl:k<l.length
  ·obtain⟨a,rfl,hv⟩:=hcell (by omega)
   have hck:=hv k hkl
   have NK:=hide (N.out k hkl)
   have GK:=hide (fun(hh:lo≤nth l k∧nth l k≤hi)=>(show ∀i,i<k+1→lo≤nth l i∧nth l i≤hi from fun i hi=>by
    rcases Nat.lt_or_ge i k with g|g
    ·exact hG.out i g
    ·obtain rfl:i=k:=by omega
     exact hh))
   clear hcell hv Y N hG
   generalize nth l k=z at *
   have kl1:(k:Int)<l.length:=by omega
   have ST:=hide (conWithin_any z lo hi w)
   by_cases hz:lo≤z∧z≤hi
   ·have F:=hide (GK.out hz)
    rw[decide_eq_true hz]at ST
    clear NK GK hz
    go_wp2_with fail
    refine ST.out.mono ?_
    rintro e w1 ⟨rfl,rfl⟩
    clear ST
    go_wp2_with fail
    go_round
    case rel=>exact⟨k+1,by go_num,by omega,F.out⟩
    case measure=>simp[intOf];omega
   ·have F:=hide (NK.out hz)
    rw[decide_eq_false hz]at ST
    clear NK GK hz
    go_wp2_with fail
    refine ST.out.mono ?_
    rintro e w1 ⟨rfl,rfl⟩
    clear ST
    go_wp2_with fail
    exact F.out
  ·obtain rfl:k=l.length:=by omega
   have F:=hide (Y.out hG.out)
   clear hcell Y N hG
   go_wp2_with fail
   exact F.out
set_option maxRecDepth 100000 in
theorem conGood_any (l:List Int)(s:Bool)(hl:l.length=101)(w:World):Calls Tryz.prog 38 #[memV l s] w (AnsC w (.bool (goodM l))):=by
 have B0:=hide (BlkM.new w l s)
 have G0:=hide (grown_alloc w (.cells (memC l s).toArray 53) none)
 have HL:=hide hl
 have PT:=hide (goodM_parts l)
 obtain⟨T,hT⟩:∃T:Ending→World→Prop,AnsC w (.bool (goodM l))=T:=⟨_,rfl⟩
 rw[hT]
 have FN:=hide (fun(h:¬goodM l=true) w' (g:w.grownBy w' none)=>(show T (.returned (.bool false)) w' from by rw[←hT];exact⟨by rw[show goodM l=false by simpa using h],g⟩))
 have FY:=hide (fun(h:goodM l=true) w' (g:w.grownBy w' none)=>(show T (.returned (.bool true)) w' from by rw[←hT];exact⟨by rw[h],g⟩))
 clear hT hl
 unfold memV
 generalize memC l s=cs at *
 go_enter Tryz.func38,Tryz.ntmps38
 go_upto_region 1 with fail
 generalize w.alloc (.cells cs.toArray 53)=W0 at *
 have c96:=B0.out.cell 96 (by rw[HL.out];omega)
 have c97:=B0.out.cell 97 (by rw[HL.out];omega)
 have c98:=B0.out.cell 98 (by rw[HL.out];omega)
 have c99:=B0.out.cell 99 (by rw[HL.out];omega)
 have c100:=B0.out.cell 100 (by rw[HL.out];omega)
 have IR:=hide (B0.out.ints 0 8 8 (by rw[HL.out];omega) (by omega))
 have IP:=hide (B0.out.ints 8 8 8 (by rw[HL.out];omega) (by omega))
 have IE:=hide (B0.out.ints 16 80 80 (by rw[HL.out];omega) (by omega))
 clear B0
 go_wp2_with fail
 refine(conAll_any _ (prt l 0 8) (-31000) 31000 _ IR.out (by rw[prt_len];omega)).mono ?_
 rintro e w0 ⟨rfl,rfl⟩
 rcases hb0:betB (-31000) 31000 (prt l 0 8)with _|_
 ·have F:=hide (FN.out (fun q=>by have:betB (-31000) 31000 (prt l 0 8)=true:=(betB_refl l).2 ((PT.out.1 q).1);rw[hb0]at this;cases this) _ G0.out)
  clear FN FY
  go_wp2_with fail
  exact F.out
 go_wp2_with fail
 refine(conAll_any _ (prt l 8 8) (-32768) 32767 _ IP.out (by rw[prt_len];omega)).mono ?_
 rintro e w1 ⟨rfl,rfl⟩
 rcases hb1:betB (-32768) 32767 (prt l 8 8)with _|_
 ·have F:=hide (FN.out (fun q=>by have:betB (-32768) 32767 (prt l 8 8)=true:=(PT.out.1 q).2.1;rw[hb1]at this;cases this) _ G0.out)
  clear FN FY
  go_wp2_with fail
  exact F.out
 go_wp2_with fail
 refine(conAll_any _ (prt l 16 80) (-32768) 32767 _ IE.out (by rw[prt_len];omega)).mono ?_
 rintro e w2 ⟨rfl,rfl⟩
 rcases hb2:betB (-32768) 32767 (prt l 16 80)with _|_
 ·have F:=hide (FN.out (fun q=>by have:betB (-32768) 32767 (prt l 16 80)=true:=(PT.out.1 q).2.2.1;rw[hb2]at this;cases this) _ G0.out)
  clear FN FY
  go_wp2_with fail
  exact F.out
 go_wp2_with fail
 have WI3:=hide (fun u=>conWithin_any (nth l 96) 0 32767 u)
 by_cases hb3:0≤nth l 96∧nth l 96≤32767
 rotate_left
 ·rw[decide_eq_false hb3]at WI3
  refine(WI3.out _).mono ?_
  rintro e w3 ⟨rfl,rfl⟩
  have F:=hide (FN.out (fun q=>hb3 (PT.out.1 q).2.2.2.1) _ G0.out)
  clear FN FY hb3 WI3
  go_wp2_with fail
  exact F.out
 rw[decide_eq_true hb3]at WI3
 refine(WI3.out _).mono ?_
 rintro e w3 ⟨rfl,rfl⟩
 have HB3:=hide hb3
 clear hb3 WI3
 go_wp2_with fail
 have WI4:=hide (fun u=>conWithin_any (nth l 97) 0 18022 u)
 by_cases hb4:0≤nth l 97∧nth l 97≤18022
 rotate_left
 ·rw[decide_eq_false hb4]at WI4
  refine(WI4.out _).mono ?_
  rintro e w4 ⟨rfl,rfl⟩
  have F:=hide (FN.out (fun q=>hb4 (PT.out.1 q).2.2.2.2.1) _ G0.out)
  clear FN FY hb4 WI4
  go_wp2_with fail
  exact F.out
 rw[decide_eq_true hb4]at WI4
 refine(WI4.out _).mono ?_
 rintro e w4 ⟨rfl,rfl⟩
 have HB4:=hide hb4
 clear hb4 WI4
 go_wp2_with fail
 have WI5:=hide (fun u=>conWithin_any (nth l 98) 20 79 u)
 by_cases hb5:20≤nth l 98∧nth l 98≤79
 rotate_left
 ·rw[decide_eq_false hb5]at WI5
  refine(WI5.out _).mono ?_
  rintro e w5 ⟨rfl,rfl⟩
  have F:=hide (FN.out (fun q=>hb5 (PT.out.1 q).2.2.2.2.2.1) _ G0.out)
  clear FN FY hb5 WI5
  go_wp2_with fail
  exact F.out
 rw[decide_eq_true hb5]at WI5
 refine(WI5.out _).mono ?_
 rintro e w5 ⟨rfl,rfl⟩
 have HB5:=hide hb5
 clear hb5 WI5
 go_wp2_with fail
 have WI6:=hide (fun u=>conWithin_any (nth l 99) 0 6 u)
 by_cases hb6:0≤nth l 99∧nth l 99≤6
 rotate_left
 ·rw[decide_eq_false hb6]at WI6
  refine(WI6.out _).mono ?_
  rintro e w6 ⟨rfl,rfl⟩
  have F:=hide (FN.out (fun q=>hb6 (PT.out.1 q).2.2.2.2.2.2.1) _ G0.out)
  clear FN FY hb6 WI6
  go_wp2_with fail
  exact F.out
 rw[decide_eq_true hb6]at WI6
 refine(WI6.out _).mono ?_
 rintro e w6 ⟨rfl,rfl⟩
 have HB6:=hide hb6
 clear hb6 WI6
 go_wp2_with fail
 have WI7:=hide (fun u=>conWithin_any (nth l 100) 0 65535 u)
 by_cases hb7:0≤nth l 100∧nth l 100≤65535
 rotate_left
 ·rw[decide_eq_false hb7]at WI7
  refine(WI7.out _).mono ?_
  rintro e w7 ⟨rfl,rfl⟩
  have F:=hide (FN.out (fun q=>hb7 (PT.out.1 q).2.2.2.2.2.2.2) _ G0.out)
  clear FN FY hb7 WI7
  go_wp2_with fail
  exact F.out
 rw[decide_eq_true hb7]at WI7
 refine(WI7.out _).mono ?_
 rintro e w7 ⟨rfl,rfl⟩
 have HB7:=hide hb7
 clear hb7 WI7
 have F:=hide (FY.out (PT.out.2 ⟨(betB_refl l).1 hb0,hb1,hb2,HB3.out,HB4.out,HB5.out,HB6.out,HB7.out⟩) _ G0.out)
 clear FN FY
 go_wp2_with fail
 exact F.out
theorem run_build_freshP (w:World):Sem.run Tryz.prog (Instr.build 53 #[(5,.int .i64 20),(7,.int .i64 21845)]) w=.ok (memV freL false) w:=by kernel_rfl
theorem wpList_build_freshP {ops:Array Oper}{rest:List Oper}{op:Oper}{a:Act}{w:World}{Q:Exit→Act→World→Prop}(hgd:op.guard=none)(x y:Operand)(ho:op.op=.build 53 #[(5,x),(7,y)])(hx:a.eval x=.int .i64 20)(hy:a.eval y=.int .i64 21845)
  (k:wpList Tryz.prog ops Q rest (a.put op.dst (memV freL false)) w):wpList Tryz.prog ops Q (op::rest) a w:=by
 refine wpList_plain hgd fun _ hK=>?_
 unfold Oper.wp execOp
 have e:(#[(5,x),(7,y)]:Array (Nat×Operand)).map (fun(i,x)=>(i,a.eval x))=#[(5,.int .i64 20),(7,.int .i64 21845)]:=by simp[hx,hy]
 simp only[ho,e,Sem.run_bind,run_build_freshP,Result.andThen_ok,Sem.run_pure]
 exact hK _ _ k
theorem conFresh_any (w:World):Calls Tryz.prog 18 #[] w (AnsC w (memV freL false)):=by
 have B0:=hide (BlkM.new w (zeros 101) false)
 have PU:=B0.out.putAll (m:=freL) (t:=false) (zeros_len 101) freL_len
 have PB:=hide PU.1
 have PG:=hide (grown_own (grown_alloc w (.cells (memC (zeros 101) false).toArray 53) none) PU.2 (Nat.le_refl _))
 have S1:=hide (show(memC freL false).length=102 from memC_len freL_len false)
 have S0:=hide (show(memC (zeros 101) false).length=102 from memC_len (zeros_len 101) false)
 have O1:=hide (memC_one freL false)
 have hz:=zero_mem
 have F:=hide (show AnsC w (memV freL false) (.returned (memV freL false)) (putV (w.alloc (.cells (memC (zeros 101) false).toArray 53)) w.heap.size 0 (memC freL false))from⟨rfl,PG.out⟩)
 clear PU PG
 generalize AnsC w (memV freL false)=T at *
 have BF:=hide (fun ops rest op a w Q=>@wpList_build_freshP ops rest op a w Q)
 unfold memV at hz F BF
 unfold BlkM at B0 PB
 generalize memC (zeros 101) false=Z at *
 generalize memC freL false=M at *
 go_enter Tryz.func18,Tryz.ntmps18
 go_wp2_with (first|refine BF.out _ _ _ _ _ _ rfl _ _ rfl rfl rfl ?_|refine wpList_store_v rfl 53 _ _ rfl w.heap.size 0 53 Z M rfl rfl B0.out (by rw[S0.out,S1.out];omega) (by rw[S1.out];exact size102) O1.out ?_)
 have hlv:=loadVar_v PB.out _ Tryz.underlying53 rfl (by rw[S1.out];exact size102)
 refine bodyPost_ret (v:=.agg M.toArray) ?_ rfl F.out
 simp[results,Tryz.results18,asAddr,Act.put,hlv]
end Go.Proofs.YtdejpongekicdaaGreatDoor

/- CodA -/
namespace Go.Proofs.YtdejpongekicdaaGreatDoor
open Go.RowKit
set_option linter.unusedVariables false
set_option linter.unusedSimpArgs false
set_option maxHeartbeats 2000000
set_option maxRecDepth 100000 in
theorem codSpoken_any (A l x:List Int)(s:Bool)(hA:A.length=9)(hl:l.length=101)(v:Value)(w:World)(h:Ints w v x)(hsh:Shp v x)(hx:x.length*8≤140737488351232) :
  Calls Tryz.prog 81 #[memV l s,.agg (arrI A),v] w (MmL w (souM A l x) s (souL A l x)):=by
 have Q0:=hide (QuM.new w 95 A l s)
 have MK:=hide (fun wr (g:w.grownBy wr none)=>make_any A (prt l 8 8) hA (prt_len _ _ _) v x wr (Ints_keep h g) hsh hx)
 rw[show mkL A (prt l 8 8) x=souL A l x from rfl]at MK
 have F:=hide (show ∀v' w',Own w.heap.size w' v' (souL A l x)→w.grownBy w' none→MmL w (souM A l x) s (souL A l x) (.returned (.tuple #[memV (ovr l 8 (mkP A (prt l 8 8) x)) s,v'])) w' from fun v' w' o q=>⟨v',rfl,o,q⟩)
 have PL:=hide (mkP_len A (prt l 8 8) x)
 have HA:=hide hA
 have HL:=hide hl
 have CL:=hide (memC_len hl s)
 have P8:=hide (BlkM.part (l:=l) s 8 8 (by omega))
 have A8:=hide (show((intsV A).drop 0).take 9=intsV A from by rw[List.drop_zero,List.take_of_length_le (by rw[intsV_len,hA];omega)])
 have ZL:=hide (memC_len (zeros_len 101) false)
 have hz:=zero_mem
 clear h hsh hx hA hl
 generalize MmL w (souM A l x) s (souL A l x)=T at *
 generalize fiE A (prt l 8 8) x=fe at *
 generalize mkP A (prt l 8 8) x=PP at *
 generalize souL A l x=LX at *
 unfold memV at F hz ⊢
 go_enter Tryz.func81,Tryz.ntmps81
 go_upto_region 1 with fail
 generalize ((w.alloc (.cells (memC l s).toArray 53)).alloc (.cells (arrI A) 95)).alloc (.cells (memC (zeros 101) false).toArray 53)=W0 at *
 clear hz
 go_wp2_with (first|refine wpList_load_v rfl 95 _ rfl (w.heap.size+1) 0 9 rfl 95 (intsV A) Q0.out.2.1 _ Tryz.underlying95 rfl size9' (by rw[intsV_len,HA.out];omega) _ A8.out ?_|refine wpList_load_v rfl 50 _ rfl w.heap.size 8 8 rfl 53 (memC l s) Q0.out.1 _ Tryz.underlying50 rfl size8 (by rw[CL.out];omega) _ P8.out ?_)
 refine(MK.out W0 Q0.out.2.2.2).mono ?_
 rintro e W1 ⟨v1,rfl,o1,g1⟩
 obtain⟨b1,b2,b3⟩:=fresh_arr W1 50 8 PP PL.out
 have B1:=hide b1
 have B2:=hide b2
 have Q2:=hide ((Q0.out.keep g1).keep b3)
 have N1:=hide (show w.heap.size+1+1+1≤W1.heap.size from(Q0.out.keep g1).2.2.1.lt)
 have O2:=hide ((o1.base (b':=w.heap.size+1+1+1) (show w.heap.size+1+1+1≤W0.heap.size from Q0.out.2.2.1.lt)).keep b3)
 rw[z8']at B1 B2 Q2 O2
 clear g1 o1 b1 b2 b3 MK Q0 A8 P8
 go_upto_region 2 with(first|refine wpList_store_arr rfl 50 _ _ rfl _ (zeros 8) PP rfl rfl B1.out (by rw[PL.out,zeros_len]) (by rw[zeros_len];exact size8) ?_)
 (try simp only[Act.put])
 clear B1
 generalize putArr _ W1.heap.size PP=W2 at *
 generalize W1.heap.size=bp at *
 have PU:=Q2.out.put 8 PP (by rw[PL.out,HL.out];omega)
 have Q3:=hide PU.1
 have O3:=hide (O2.out.keepLt PU.2 (by omega))
 have I_:=hide (intsV_one PP)
 have IL:=hide (show(intsV PP).length=8 by rw[intsV_len];exact PL.out)
 clear PU O2
 go_upto_region 3 with(first|refine wpList_load_arr rfl 50 _ rfl _ rfl _ B2.out _ Tryz.underlying50 rfl (by rw[PL.out];exact size8) ?_|refine wpList_store_v rfl 50 _ _ rfl w.heap.size 8 53 (memC l s) (intsV PP) rfl rfl Q2.out.1 (by rw[IL.out,CL.out];omega) (by rw[IL.out];exact size8) I_.out ?_)
 (try simp only[Act.put])
 clear Q2 B2 I_ IL
 generalize putV W2 w.heap.size 8 (intsV PP)=W3 at *
 have L5:=hide (show(ovr l 8 PP).length=101 by rw[ovr_len];exact HL.out)
 generalize ovr l 8 PP=m at *
 have A5:=hide (BlkM.all s L5.out)
 have C5:=hide (memC_len L5.out s)
 have ON:=hide (memC_one m s)
 have PB:=hide (Q3.out.fin m s L5.out)
 have O6:=hide (O3.out.keepLt PB.out.2.2 (by omega))
 have FF:=hide (F.out _ _ (O6.out.base (b':=w.heap.size) (by omega)) PB.out.2.1)
 clear F O3 O6
 go_wp2_with (first|refine wpList_load_v rfl 53 _ rfl w.heap.size 0 102 rfl 53 (memC m s) Q3.out.1 _ Tryz.underlying53 rfl size102 (by rw[C5.out];omega) _ A5.out ?_|refine wpList_store_v rfl 53 _ _ rfl (w.heap.size+1+1) 0 53 (memC (zeros 101) false) (memC m s) rfl rfl Q3.out.2.2.1 (by rw[ZL.out,C5.out];omega) (by rw[C5.out];exact size102) ON.out ?_)
 have hlv:=loadVar_v PB.out.1 _ Tryz.underlying53 rfl (by rw[C5.out];exact size102)
 refine bodyPost_ret (v:=.tuple #[.agg (memC m s).toArray,_]) ?_ rfl FF.out
 simp[results,Tryz.results81,asAddr,Act.put,hlv]
set_option maxRecDepth 100000 in
theorem codAhead_any (l:List Int)(s:Bool)(k:Int)(hl:l.length=101)(w:World) :
  Calls Tryz.prog 65 #[memV l s,.int .i64 k] w (AnsC w (memV (if k=1 then freL else l) (if k=1 then false else s))):=by
 have M0:=hide (MmS.new w l s)
 have FR:=hide (fun u=>conFresh_any u)
 have FL:=hide freL_len
 have HL:=hide hl
 have CL:=hide (memC_len hl s)
 have AL:=hide (BlkM.all s hl)
 have ZL:=hide (memC_len (zeros_len 101) false)
 have hz:=zero_mem
 clear hl
 by_cases hk:k=1
 ·have hk1:(k==1)=true:=beq_iff_eq.2 hk
  rw[if_pos hk,if_pos hk]
  have F:=hide (show ∀w',w.grownBy w' none→AnsC w (memV freL false) (.returned (memV freL false)) w' from fun w' q=>⟨rfl,q⟩)
  clear hk
  generalize AnsC w (memV freL false)=T at *
  generalize freL=fl at *
  unfold AnsC memV at FR
  unfold memV at F hz ⊢
  go_enter Tryz.func65,Tryz.ntmps65
  go_upto_region 1 with fail
  generalize (w.alloc (.cells (memC l s).toArray 53)).alloc (.cells (memC (zeros 101) false).toArray 53)=W0 at *
  clear hz
  go_wp2_with fail
  refine(FR.out W0).mono ?_
  rintro e W1 ⟨rfl,g1⟩
  have M1:=hide (M0.out.keep g1)
  have PB:=hide (M1.out.fin fl false FL.out)
  have FF:=hide (F.out _ PB.out.2)
  have CF:=hide (memC_len FL.out false)
  have ON:=hide (memC_one fl false)
  clear M0 g1 FR F
  go_wp2_with (first|refine wpList_store_v rfl 53 _ _ rfl (w.heap.size+1) 0 53 (memC (zeros 101) false) (memC fl false) rfl rfl M1.out.2.1 (by rw[ZL.out,CF.out];omega) (by rw[CF.out];exact size102) ON.out ?_)
  have hlv:=loadVar_v PB.out.1 _ Tryz.underlying53 rfl (by rw[CF.out];exact size102)
  refine bodyPost_ret (v:=.agg (memC fl false).toArray) ?_ rfl FF.out
  simp[results,Tryz.results65,asAddr,Act.put,hlv]
 ·have hk1:(k==1)=false:=beq_eq_false_iff_ne.2 hk
  rw[if_neg hk,if_neg hk]
  have F:=hide (show ∀w',w.grownBy w' none→AnsC w (memV l s) (.returned (memV l s)) w' from fun w' q=>⟨rfl,q⟩)
  clear hk FR FL
  generalize AnsC w (memV l s)=T at *
  unfold memV at F hz ⊢
  go_enter Tryz.func65,Tryz.ntmps65
  go_upto_region 1 with fail
  generalize (w.alloc (.cells (memC l s).toArray 53)).alloc (.cells (memC (zeros 101) false).toArray 53)=W0 at *
  clear hz
  have PB:=hide (M0.out.fin l s HL.out)
  have FF:=hide (F.out _ PB.out.2)
  have ON:=hide (memC_one l s)
  clear F
  go_wp2_with (first|refine wpList_load_v rfl 53 _ rfl w.heap.size 0 102 rfl 53 (memC l s) M0.out.1 _ Tryz.underlying53 rfl size102 (by rw[CL.out];omega) _ AL.out ?_|refine wpList_store_v rfl 53 _ _ rfl (w.heap.size+1) 0 53 (memC (zeros 101) false) (memC l s) rfl rfl M0.out.2.1 (by rw[ZL.out,CL.out];omega) (by rw[CL.out];exact size102) ON.out ?_)
  have hlv:=loadVar_v PB.out.1 _ Tryz.underlying53 rfl (by rw[CL.out];exact size102)
  refine bodyPost_ret (v:=.agg (memC l s).toArray) ?_ rfl FF.out
  simp[results,Tryz.results65,asAddr,Act.put,hlv]
end Go.Proofs.YtdejpongekicdaaGreatDoor

/- CodMath -/
namespace Go.Proofs.YtdejpongekicdaaGreatDoor
open Go.RowKit
set_option linter.unusedVariables false
set_option linter.unusedSimpArgs false
theorem list_nth {a b:List Int}(h:a.length=b.length)(k:∀i,i<a.length→nth a i=nth b i):a=b:=by
 have e:a=tab b.length (nth b):=tab_ext h (fun i hi=>k i (by omega))
 have f:b=tab b.length (nth b):=tab_ext rfl (fun i _=>rfl)
 rw[e];exact f.symm
theorem prt_ovr (l M:List Int)(o p n:Nat)(hl:p+n≤l.length)(h:p+n≤o∨o+M.length≤p):prt (ovr l o M) p n=prt l p n:=by
 refine tab_ext (prt_len _ _ _) (fun i hi=>?_)
 rw[prt_nth _ _ _ _ hi,ovr_nth _ _ _ _ (by omega),if_neg (by omega)]
theorem prt_ovr_in (l M:List Int)(o:Nat)(hl:o+M.length≤l.length):prt (ovr l o M) o M.length=M:=by
 refine(tab_ext rfl (fun i hi=>?_)).symm
 rw[ovr_nth _ _ _ _ (by omega),if_pos (by omega),Nat.add_sub_cancel_left]
theorem ovr_set (l M:List Int)(o k:Nat)(z:Int)(hk:k<l.length)(h:k<o∨o+M.length≤k):ovr (l.set k z) o M=(ovr l o M).set k z:=by
 refine list_nth (by rw[ovr_len,List.length_set,List.length_set,ovr_len]) (fun i hi=>?_)
 rw[ovr_len,List.length_set]at hi
 rw[ovr_nth _ _ _ _ (by rw[List.length_set];exact hi),setN _ _ _ hk,setN _ _ _ (by rw[ovr_len];exact hk),ovr_nth _ _ _ _ hi]
 by_cases e:i=k
 ·rw[if_pos e,if_neg (by omega),if_pos e]
 ·rw[if_neg e,if_neg e]
theorem souM_refl (A m x:List Int)(hm:m.length=101):prt (souM A m x) 0 8=prt m 0 8:=by
 unfold souM
 exact prt_ovr _ _ _ _ _ (by omega) (.inl (by omega))
theorem spM_refl (l u:List Int)(hl:l.length=101):prt (spM l u) 0 8=prt l 0 8:=by
 unfold spM
 rw[prt_set _ _ _ _ _ (by rw[List.length_set,List.length_set,ovr_len];omega) (.inr (by omega)),prt_set _ _ _ _ _ (by rw[List.length_set,ovr_len];omega) (.inr (by omega)),prt_set _ _ _ _ _ (by rw[ovr_len];omega) (.inr (by omega))]
 exact prt_ovr _ _ _ _ _ (by omega) (.inl (by omega))
theorem siM_refl (l:List Int)(hl:l.length=101)(hg:goodM l=true):prt (siM l) 0 8=prt l 0 8:=by
 have e:siM l=memT l (nth l 99) (sdN (nth l 100) 40) (kpA (prt l 16 80) (siX l)):=if_pos hg
 rw[e]
 unfold memT
 rw[prt_ovr _ _ _ _ _ (by rw[List.length_set,List.length_set];omega) (.inl (by omega)),prt_set _ _ _ _ _ (by rw[List.length_set];omega) (.inr (by omega)),prt_set _ _ _ _ _ (by omega) (.inr (by omega))]
theorem plP_refl (sil:Bool)(l u:List Int)(hl:l.length=101)(hg:goodM l=true):prt (plP sil l u) 0 8=prt l 0 8:=by
 unfold plP
 split
 ·exact siM_refl l hl hg
 ·exact spM_refl l u hl
theorem plM_refl (sil:Bool){now p l:List Int}(hl:l.length=101)(hg:goodM l=true)(hn:now.length=8)(sn:steadyB now=true)(hp:gudP p=true):∀n,n≤2→prt (plM sil now l p n) 0 8=prt l 0 8
 | 0,_=>rfl
 | n+1,h=>by
  have g:=plM_good sil hl hg hn sn hp n (by omega)
  have len:=plM_len sil now p hl n
  show prt (souM _ (plP sil (plM sil now l p n) (subL p n)) _) 0 8=_
  rw[souM_refl _ _ _ (plP_len sil len _),plP_refl sil _ _ len g]
  exact plM_refl sil hl hg hn sn hp n (by omega)
def hfM (A:List Int)(sil:Bool)(l u:List Int):List Int:=souM A (plP sil l u) (plX sil l u)
def hfL (A:List Int)(sil:Bool)(l u:List Int):List Int:=souL A (plP sil l u) (plX sil l u)
theorem hfL_le (A:List Int)(sil:Bool){l u:List Int}(hg:goodM l=true)(h:GudS u):(hfL A sil l u).length≤40:=by
 have:=mkL_le A (prt (plP sil l u) 8 8) (plX sil l u)
 rw[(plX_right sil hg h).1]at this
 exact this
theorem plM_half (sil:Bool){now p l:List Int}(hl:l.length=101)(hg:goodM l=true)(hn:now.length=8)(sn:steadyB now=true)(hp:gudP p=true)(n:Nat)(h:n<2):hfM (prdP (prt l 0 8) now n) sil (plM sil now l p n) (subL p n)=plM sil now l p (n+1):=by
 show _=souM (prdP (prt (plP sil (plM sil now l p n) (subL p n)) 0 8) now n) _ _
 rw[plP_refl sil _ _ (plM_len sil now p hl n) (plM_good sil hl hg hn sn hp n (by omega)),plM_refl sil hl hg hn sn hp n (by omega)]
 rfl
theorem plO_half (sil:Bool){now p l:List Int}(hl:l.length=101)(hg:goodM l=true)(hn:now.length=8)(sn:steadyB now=true)(hp:gudP p=true)(n:Nat)(h:n<2):plO sil now l p n++hfL (prdP (prt l 0 8) now n) sil (plM sil now l p n) (subL p n)=plO sil now l p (n+1):=by
 show _=plO sil now l p n++souL (prdP (prt (plP sil (plM sil now l p n) (subL p n)) 0 8) now n) _ _
 rw[plP_refl sil _ _ (plM_len sil now p hl n) (plM_good sil hl hg hn sn hp n (by omega)),plM_refl sil hl hg hn sn hp n (by omega)]
 rfl
theorem enM_refl (now x:List Int){m:List Int}(hm:m.length=101):∀k,prt (enM now m x k) 0 8=prt m 0 8
 | 0=>rfl
 | k+1=>by
  rw[enM_step,souM_refl _ _ _ (by rw[spM_len];exact enM_len now x hm k),spM_refl _ _ (enM_len now x hm k)]
  exact enM_refl now x hm k
theorem enA_eq (now x:List Int){m:List Int}(hm:m.length=101)(k:Nat):enA now m x k=prdP (prt m 0 8) now k:=by
 unfold enA
 rw[enM_refl now x hm k]
theorem enM_half (now m x:List Int)(hm:m.length=101)(k:Nat):hfM (prdP (prt m 0 8) now k) false (enM now m x k) (enU now m x k)=enM now m x (k+1):=by
 rw[enM_step,enA_eq now x hm k]
 unfold hfM
 rw[plP_f,plX_f]
theorem spM_way (l u:List Int)(hl:l.length=101):ovr (((l.set 98 (20+nth u 0)).set 97 (spG u)).set 96 (spZ u)) 16 (kpL (prt l 16 80) (spX l u))=spM l u:=by
 have k:=kpL_len (prt l 16 80) (spX l u)
 rw[ovr_set _ _ _ _ _ (by rw[List.length_set,List.length_set];omega) (.inr (by omega)),ovr_set _ _ _ _ _ (by rw[List.length_set];omega) (.inr (by omega)),ovr_set _ _ _ _ _ (by omega) (.inr (by omega))]
 rfl
def prL (was now:List Int):Nat→List Int
 | 0=>zeros 18
 | k+1=>ovr (prL was now k) (9*k) (prdP was now k)
theorem prL_len (was now:List Int):∀k,(prL was now k).length=18
 | 0=>zeros_len 18
 | k+1=>by
  show(ovr _ _ _).length=18
  rw[ovr_len];exact prL_len was now k
theorem prdP_len (was now:List Int)(k:Nat):(prdP was now k).length=9:=by
 unfold prdP
 split<;>exact dirL_len _
theorem prL_part (was now:List Int)(k:Nat)(h:k<2):prt (prL was now 2) (9*k) 9=prdP was now k:=by
 have l0:=prdP_len was now 0
 have l1:=prdP_len was now 1
 obtain rfl|rfl:k=0∨k=1:=by omega
 ·show prt (ovr (ovr (zeros 18) 0 (prdP was now 0)) 9 (prdP was now 1)) 0 9=_
  rw[prt_ovr _ _ _ _ _ (by rw[ovr_len,zeros_len];omega) (.inl (by omega))]
  have:=prt_ovr_in (zeros 18) (prdP was now 0) 0 (by rw[l0,zeros_len];omega)
  rw[l0]at this
  exact this
 ·show prt (ovr (ovr (zeros 18) 0 (prdP was now 0)) 9 (prdP was now 1)) 9 9=_
  have:=prt_ovr_in (ovr (zeros 18) 0 (prdP was now 0)) (prdP was now 1) 9 (by rw[l1,ovr_len,zeros_len];omega)
  rw[l1]at this
  exact this
def lesL (a b:List Int):List Int:=tab a.length (fun i=>c16 (c16 (nth a i)-c16 (nth b i)))
def louL (a:List Int)(g:Int):List Int:=tab a.length (fun i=>c16 ((nth a i*g+8192) / 16384))
theorem right_nth {l:List Int}(h:rightB l=true)(i:Nat):-32768≤nth l i∧nth l i≤32767:=by
 by_cases hi:i<l.length
 ·exact(rightB_iff l).1 h i hi
 ·rw[getD_out _ _ (by omega)];omega
theorem lesL_right {a b:List Int}(ha:rightB a=true)(hb:rightB b=true):lesL a b=tab a.length (fun i=>c16 (nth a i-nth b i)):=by
 unfold lesL
 exact tab_congr _ _ _ (fun i _=>by rw[c16_id _ (right_nth ha i).1 (right_nth ha i).2,c16_id _ (right_nth hb i).1 (right_nth hb i).2])
theorem louL_len (a:List Int)(g:Int):(louL a g).length=a.length:=tab_len _ _
theorem louL_right (a:List Int)(g:Int):rightB (louL a g)=true:=c16_right _ _
theorem chT_les {m a x:List Int}(hg:goodM m=true)(hA:WideP a)(hx:x.length=40)(rx:rightB x=true):lesL x (chZ m a)=chT m a x:=by
 rw[lesL_right rx (chZ_ok hg hA).2,hx]
 rfl
theorem chU_les {m a:List Int}(x:List Int)(hg:goodM m=true)(hA:WideP a):lesL (chT m a x) (louL (chV m a x) (gaV (chG m a x)))=chU m a x:=by
 rw[lesL_right (chT_ok m a x).2 (louL_right _ _),(chT_ok m a x).1]
 unfold chU
 refine tab_congr _ _ _ (fun i hi=>?_)
 unfold chUN louL
 rw[tab_nth _ _ _ (by rw[(chV_ok x hg hA).1];exact hi)]
end Go.Proofs.YtdejpongekicdaaGreatDoor
