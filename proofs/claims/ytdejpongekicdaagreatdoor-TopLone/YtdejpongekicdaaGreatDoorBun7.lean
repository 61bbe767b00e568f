/- Texts put together: DkC, DkD, DkO, DkL, OpensC, TopC, TopL, CnpS, CnpA, CodA, CodMath, CodB, CnpB. -/
import Derived.Test.YtdejpongekicdaaGreatDoorBun6
import Derived.Test.YtdejpongekicdaaGreatDoorBun1
import Derived.Deep.Slices
import Derived.Test.YtdejpongekicdaaGreatDoorBun2
import Derived.Deep.CutRange
import Derived.Shelf.Small.Bits
import Derived.BigQuiet
import Derived.Deep.QuietTactic
import Derived.Test.YtdejpongekicdaaGreatDoorBun3
/- DkC -/
namespace Go.Proofs.YtdejpongekicdaaGreatDoor
open Go.RowKit
set_option linter.unusedVariables false
set_option linter.unusedSimpArgs false
set_option maxHeartbeats 4000000
theorem step_mapU {y : Nat → Option Bool} {o : Oper} {a : Act} {w : World} {K : Act → World → Prop} {Q : Exit → Act → World → Prop} {E : Prop} (hg : o.guard = none) (m x v : Operand) (hop : o.op = Op.mapUpdate 68 m x v) (b n : Nat) (D : DataW Unit) (hm : a.eval m = .map (some b))
  (hown : w.ownsMap Tryz.prog 3 ptrE b n D) (hn : n < maxLen) (z : Int) (hz : In1 z) (hx : a.eval x = .int .i64 z) (B : Nat) (hv : a.eval v = .pointer (some ⟨B, 0, none⟩))
  (k : ∀ w', w'.ownsMap Tryz.prog 3 ptrE b (n + 1) (D.put (.int .i64 z) (.lit (.int .i64 B))) → w.grownBy w' (some b) → K (a.put o.dst undef) w') : if Region.wanted o y = true then Oper.wp Tryz.prog o a w K Q else E := by
 have hw : Region.wanted o y = true := by simp [Region.wanted, hg]
 rw [if_pos hw]
 obtain ⟨w', hrun, r1, r2⟩ := hown.update keyI Tryz.underlying68 hn (Maps.keyOf_int_mk Tryz.underlying3 (wfI hz)) (val := .pointer (some ⟨B, 0, none⟩)) (d := .lit (.int .i64 B)) (ps := []) rfl
 unfold Oper.wp
 simp [execOp, hop, hm, hx, hv, hrun, Result.andThen]
 exact k w' r1 r2
theorem step_del {y : Nat → Option Bool} {o : Oper} {a : Act} {w : World} {K : Act → World → Prop} {Q : Exit → Act → World → Prop} {E : Prop} (hg : o.guard = none) (m x : Operand) (hop : o.op = Op.call { callee := Callee.builtin Builtin.delete, args := #[m, x], argTypes := #[68, 3] }) (b n : Nat) (D : DataW Unit) (hm : a.eval m = .map (some b))
  (hown : w.ownsMap Tryz.prog 3 ptrE b n D) (z : Int) (hz : In1 z) (hx : a.eval x = .int .i64 z)
  (k : ∀ w', w'.ownsMap Tryz.prog 3 ptrE b n (D.del (.int .i64 z)) → w.grownBy w' (some b) → K (a.put o.dst (.tuple #[])) w') : if Region.wanted o y = true then Oper.wp Tryz.prog o a w K Q else E := by
 have hw : Region.wanted o y = true := by simp [Region.wanted, hg]
 rw [if_pos hw]
 obtain ⟨w', hrun, r1, r2⟩ := hown.drop keyI Tryz.underlying68 (Maps.keyOf_int_mk Tryz.underlying3 (wfI hz)) o.type
 unfold Oper.wp
 simp [execOp, hop, resolve, invoke, builtin, hm, hx, hrun, Result.andThen]
 exact k w' r1 r2.grown
theorem eql_map (mb : Nat) (u : World) : Sem.run Tryz.prog (binOp .eql 68 (.map (some mb)) (.map none)) u = .ok (.bool false) u := by kernel_rfl
theorem build_ses (u : World) : Sem.run Tryz.prog (Instr.build 134 #[(0, .agg (encC begL false).toArray), (1, .agg (memC freL false).toArray)]) u = .ok (.agg (sesC fsh).toArray) u := by kernel_rfl
theorem yields_ses {a : Act} {op : Oper} {x y : Operand} {w : World} {E M SC : List Value} (ho : op.op = .build 134 #[(0, x), (1, y)]) (hx : a.eval x = .agg E.toArray) (hy : a.eval y = .agg M.toArray) (hr : ∀ u, Sem.run Tryz.prog (Instr.build 134 #[(0, .agg E.toArray), (1, .agg M.toArray)]) u = .ok (.agg SC.toArray) u) :
  (execOp a.eval op).run Tryz.prog w = .ok (.value (.agg SC.toArray)) w := by
 have e : (#[(0, x), (1, y)] : Array (Nat × Operand)).map (fun (i, x) => (i, a.eval x)) = #[(0, .agg E.toArray), (1, .agg M.toArray)] := by simp [hx, hy]
 unfold execOp
 simp only [ho, e, Sem.run_bind, hr, Result.andThen_ok, Sem.run_pure]
def OpE (w : World) (d : Nat) (F : Int → Option Ses) (n : Nat) (Z : Nat → Prop) (v : Int) (x : Ending) (w' : World) : Prop :=
 x = .returned (.int .i64 (opnC (F v) n v)) ∧ ∃ (Z' : Nat → Prop) (r : Option Nat), DkW w' d (if opnC (F v) n v = 0 then putS F v (some fsh) else F) (if opnC (F v) n v = 0 then n + 1 else n) Z' ∧ (∀ b, Z' b → Z b ∨ w.heap.size ≤ b) ∧ w.grownBy w' r ∧ ∀ b, r = some b → Z b
theorem opE_no {w : World} {d : Nat} {F : Int → Option Ses} {n : Nat} {Z : Nat → Prop} {v : Int} {en : Int} (h : DkW w d F n Z) (he : opnC (F v) n v = en) (hn : en ≠ 0) : OpE w d F n Z v (.returned (.int .i64 en)) w := by
 refine ⟨by rw [he], Z, none, ?_, fun b hb => .inl hb, grown_refl _ _, fun b e => by cases e⟩
 rw [if_neg (by rw [he]; exact hn), if_neg (by rw [he]; exact hn)]
 exact h
theorem mk_map (u : World) : Sem.run Tryz.prog (Instr.makeMap 68 none) u = .ok (.map (some u.heap.size)) (u.alloc (.map #[] 0)) := @run_makeMap Tryz.prog 68 u
theorem dk_empty (w : World) : DkI ((w.alloc (.map #[] 0)).alloc (.cells #[.map (some w.heap.size)] 70)) (w.heap.size + 1) (fun _ => none) 0 (fun b => b = w.heap.size ∨ b = w.heap.size + 1) w.heap.size (.map []) (fun _ => 0) := by
 refine ⟨?_, (World.ownsMap_made w Tryz.prog 3 ptrE).alloc _, rfl, fun v => rfl, fun v => rfl, fun v s h => (by cases h), fun u v s t h => (by cases h), .inr rfl, .inl rfl, fun b hb => ?_, fun v s h => (by cases h)⟩
 ·have := BlkV.new (w.alloc (.map #[] 0)) 70 [.map (some w.heap.size)]
  simpa using this
 ·simp
  omega
theorem dkNew_any (w : World) : Calls Tryz.prog 7 #[] w fun x w' => ∃ (d : Nat) (Z : Nat → Prop), x = .returned (.pointer (some ⟨d, 0, none⟩)) ∧ DkW w' d (fun _ => none) 0 Z ∧ (∀ b, Z b → w.heap.size ≤ b) ∧ w.grownBy w' none := by
 have F := hide (dk_empty w)
 have G := hide (grown_none (grown_alloc w (.map #[] 0) none) (grown_alloc _ (.cells #[.map (some w.heap.size)] 70) none))
 have hm := mk_map
 go_enter Tryz.func7, Tryz.ntmps7
 go_wp2_with fail
 go_ret
 exact ⟨w.heap.size + 1, _, by simp, ⟨_, _, _, F.out⟩, fun b hb => by omega, G.out⟩
set_option maxRecDepth 100000 in
theorem dkOpen_any (W : World) (pb : CBg 17 W) (pf : CFr 18 W) (d : Nat) (F : Int → Option Ses) (n : Nat) (Z : Nat → Prop) (v : Int) (hv : In1 v) (w : World) (gw : W.grownBy w none) (h : DkW w d F n Z) :
  Calls Tryz.prog 41 #[.pointer (some ⟨d, 0, none⟩), .int .i64 v] w (OpE w d F n Z v) := by
 obtain ⟨hv1, hv2⟩ := hv
 by_cases h0 : v < 0
 ·have FF := hide (opE_no (v := v) (en := 2) h (if_pos h0) (by omega))
  generalize OpE w d F n Z v = T at *
  clear h pb pf
  go_enter Tryz.func41, Tryz.ntmps41
  go_wp2_with fail
  exact FF.out
 ·obtain ⟨mb, D, bl, i⟩ := h
  have dc := i.dk.cell 0
  simp at dc
  have hl := i.len
  have hlk := i.look (v := v) ⟨hv1, hv2⟩
  rcases hF : F v with _ | s
  ·unfold ptV at hlk
   rw [hF] at hlk
   by_cases h3 : 32 ≤ n
   ·have FF := hide (opE_no (F := F) (v := v) (en := 7) ⟨mb, D, bl, i⟩ (by unfold opnC; rw [if_neg h0, hF, if_neg (by simp), if_pos h3]) (by omega))
    have hn : (32 : Int) ≤ n := by omega
    generalize OpE w d F n Z v = T at *
    clear i pb pf h3 hF
    go_enter Tryz.func41, Tryz.ntmps41
    go_wp2_with fail
    exact FF.out
   ·have ec : opnC (F v) n v = 0 := by unfold opnC; rw [if_neg h0, hF, if_neg (by simp), if_neg h3]
    have FI := hide (fun w1 w' B g hB hb g' N hm => i.more (v := v) (w1 := w1) (w' := w') (B := B) (N := N) hF g hB hb g' hm)
    have MP := hide i.mp
    have ZM := hide i.zm
    have FO := hide (fun (w1 w' : World) (B : Nat) (g : w.grownBy w1 none) (hB : w.heap.size ≤ B) (hb : BlkV w1 B 134 (sesC fsh)) (g' : w1.grownBy w' (some mb)) (hm : w'.ownsMap Tryz.prog 3 ptrE mb (n + 1) (D.put (.int .i64 v) (.lit (.int .i64 B)))) =>
     show OpE w d F n Z v (.returned (.int .i64 0)) w' from ⟨by rw [ec], fun b => Z b ∨ b = B, some mb, by rw [if_pos ec, if_pos ec]; exact ⟨_, _, _, FI.out w1 w' B g hB hb g' (n + 1) hm⟩, fun b hb => by rcases hb with q | q; exact .inl q; exact .inr (by omega), grown_trans g g' (some mb) (fun i e => by cases e) (fun i e _ => e), fun b e => by cases e; exact ZM.out⟩)
    have DB := hide i.dk
    have DM := hide (show d ≠ mb from fun e => by
     obtain ⟨es, cl, hbm, _⟩ := i.mp
     have := i.dk
     unfold BlkV at this
     rw [e, hbm] at this
     cases this)
    have hn : ¬ (32 : Int) ≤ n := by omega
    have RB := hide build_ses
    have qm := eql_map mb
    have PB := hide pb
    have PF := hide pf
    have GW := hide gw
    have hvv : In1 v := ⟨hv1, hv2⟩
    unfold CBg AnsC encV at PB
    unfold CFr AnsC memV at PF
    clear FI i pb pf gw hF ec ZM
    generalize OpE w d F n Z v = T at *
    generalize sesC fsh = SC at *
    generalize begL = BL at *
    generalize freL = FL at *
    go_enter Tryz.func41, Tryz.ntmps41
    go_upto_region 9 with fail
    refine wp_region_held_drew (S := fun u => BlkV u d 70 [.map (some mb)]) (by kernel_rfl) (DB.out.keep (gw_start w)) (fun hHeld => ?_)
    refine wpAnyH_take (i := 0) (v := ?vop0) rfl (by kernel_rfl) (by kernel_rfl) (by kernel_rfl) (fun _ _ _ h => h) (Or.inl ⟨by rfl, ?yop0⟩) hHeld ?rop0
    case yop0 => (intro w' hSw; go_simp; (try with_reducible rfl))
    (try simp only [Act.put, sL])
    refine wpAnyH_take (i := 1) (v := ?vop1) rfl (by kernel_rfl) (by kernel_rfl) (by kernel_rfl) (fun _ _ _ h => h) (Or.inl ⟨by rfl, ?yop1⟩) hHeld ?rop1
    case yop1 => (intro w' hSw; go_simp; (try with_reducible rfl))
    (try simp only [Act.put, sL])
    refine wpAnyH_take (i := 2) (v := ?vop2) rfl (by kernel_rfl) (by kernel_rfl) (by kernel_rfl) (fun _ _ _ h => h) (Or.inl ⟨by rfl, ?yop2⟩) hHeld ?rop2
    case yop2 => (intro w' hSw; go_simp; (try with_reducible rfl))
    (try simp only [Act.put, sL])
    refine wpAnyH_take (i := 3) (v := .map (some mb)) rfl (by kernel_rfl) (by kernel_rfl) (by kernel_rfl) (fun _ _ _ h => h) (Or.inl ⟨by rfl, ?yop3⟩) hHeld ?rop3
    case yop3 => (intro w' hSw; have cc := BlkV.cell hSw 0; simp at cc; go_simp; (try with_reducible rfl))
    (try simp only [Act.put, sL])
    refine wpAnyH_take (i := 4) (v := ?vop4) rfl (by kernel_rfl) (by kernel_rfl) (by kernel_rfl) (fun _ _ _ h => h) (Or.inl ⟨by rfl, ?yop4⟩) hHeld ?rop4
    case yop4 => (intro w' hSw; go_simp; (try with_reducible rfl))
    (try simp only [Act.put, sL])
    refine wpAnyH_ready (rs := [5]) (by kernel_rfl) (by simp) (AllReadyH.cons rfl (fun K hK => ?_) AllReadyH.nil)
    (try simp only [Act.put, sL])
    go_simp
    refine (PB.out _ (grown_none GW.out (gw_start _))).mono ?_
    rintro x W1 ⟨rfl, g1⟩
    have G1 := hide (grown_none (gw_start w) g1)
    clear g1
    go_wp2_with fail
    refine hK.out _ _ (DB.out.keep G1.out) (fun hHeld => ?_)
    clear hK
    (try simp only [Act.put, sL])
    refine wpAnyH_ready (rs := [6]) (by kernel_rfl) (by simp) (AllReadyH.cons rfl (fun K hK => ?_) AllReadyH.nil)
    (try simp only [Act.put, sL])
    go_simp
    refine (PF.out _ (grown_none GW.out G1.out)).mono ?_
    rintro x W2 ⟨rfl, g2⟩
    have G2 := hide (grown_none G1.out g2)
    clear g2 G1
    go_wp2_with fail
    refine hK.out _ _ (DB.out.keep G2.out) (fun hHeld => ?_)
    clear hK
    (try simp only [Act.put, sL])
    refine wpAnyH_take (i := 7) (v := .agg SC.toArray) rfl (by kernel_rfl) (by kernel_rfl) (by kernel_rfl) (fun _ _ _ h => h) (Or.inl ⟨by rfl, ?yop7⟩) hHeld ?rop7
    case yop7 => (intro w' hSw; exact yields_ses rfl rfl rfl RB.out)
    (try simp only [Act.put, sL])
    refine wpAnyH_ready (rs := [8]) (by kernel_rfl) (by simp) (AllReadyH.cons rfl (fun K hK => ?_) AllReadyH.nil)
    (try simp only [Act.put, sL])
    go_simp
    go_wp2_with fail
    refine hK.out _ _ (DB.out.keep (grown_none G2.out (grown_alloc W2 (.cells SC.toArray 134) none))) (fun hHeld => ?_)
    clear hK
    (try simp only [Act.put, sL])
    have G3 := hide (grown_none G2.out (grown_alloc W2 (.cells SC.toArray 134) none))
    have S3 := hide (BlkV.new W2 134 SC)
    have NB := hide (World.grownBy.size G2.out)
    clear G2
    generalize W2.alloc (.cells SC.toArray 134) = W3 at *
    generalize W2.heap.size = B at *
    refine wpAnyH_ready (rs := [9]) (by kernel_rfl) (by simp) (AllReadyH.cons rfl (fun K hK => ?_) AllReadyH.nil)
    (try simp only [Act.put, sL])
    refine step_mapU rfl _ _ _ rfl mb n D rfl (MP.out.kept G3.out (by simp)) (by unfold maxLen; omega) v hvv rfl B rfl ?_
    intro W4 m4 g4
    have FF := hide (FO.out W3 W4 B G3.out NB.out S3.out g4 m4)
    have D4 := hide ((DB.out.keep G3.out).keepBut g4 DM.out)
    clear FO m4 g4 G3 S3 NB
    refine hK.out _ _ D4.out (fun hHeld => ?_)
    clear hK
    (try simp only [Act.put, sL])
    refine wpAnyH_done (by kernel_rfl) ?_ _
    clear hHeld D4
    go_wp2_with fail
    exact FF.out
  ·unfold ptV at hlk
   rw [hF] at hlk
   have FF := hide (opE_no (F := F) (v := v) (en := 10) ⟨mb, D, bl, i⟩ (by unfold opnC; rw [if_neg h0, hF, if_pos (by simp)]) (by omega))
   generalize OpE w d F n Z v = T at *
   clear i pb pf hF
   go_enter Tryz.func41, Tryz.ntmps41
   go_wp2_with fail
   exact FF.out
end Go.Proofs.YtdejpongekicdaaGreatDoor

/- DkD -/
namespace Go.Proofs.YtdejpongekicdaaGreatDoor
open Go.RowKit
set_option linter.unusedVariables false
set_option linter.unusedSimpArgs false
set_option maxHeartbeats 4000000
theorem shp_sl {v : Value} {l : List Int} (h : Shp v l) : ∃ a n c, v = .slice a n c := by
 rcases h with h | ⟨a, c, h⟩
 ·exact ⟨_, _, _, h⟩
 ·exact ⟨_, _, _, h⟩
def clC (c : Cl) (vs vb : Value) : List Value := [.int .i64 c.k, .int .i64 c.v, .bool c.r, vs, vb]
structure AsS (w : World) (c : Cl) (vs vb : Value) (W0 : World) : Prop where
 cl : BlkV W0 w.heap.size 37 (clC c vs vb)
 an : BlkV W0 (w.heap.size + 1) 34 (ansC 0 0 (.slice none 0 0) (.slice none 0 0))
 gr : w.grownBy W0 none
theorem AsS.new (w : World) (c : Cl) (vs vb : Value) : AsS w c vs vb ((w.alloc (.cells (clC c vs vb).toArray 37)).alloc (.cells (ansC 0 0 (.slice none 0 0) (.slice none 0 0)).toArray 34)) :=
 ⟨(BlkV.new w 37 (clC c vs vb)).keep (grown_alloc _ _ none), by have := ans_new (w.alloc (.cells (clC c vs vb).toArray 37)) 0 0 (.slice none 0 0) (.slice none 0 0); simpa using this, grown_none (grown_alloc w _ none) (grown_alloc _ _ none)⟩
theorem AsS.keep {w : World} {c : Cl} {vs vb : Value} {W0 W1 : World} (h : AsS w c vs vb W0) (g : W0.grownBy W1 none) : AsS w c vs vb W1 := ⟨h.cl.keep g, h.an.keep g, grown_none h.gr g⟩
theorem AsS.size {w : World} {c : Cl} {vs vb : Value} {W0 : World} (h : AsS w c vs vb W0) : w.heap.size + 1 < W0.heap.size := h.an.lt
theorem dkE_turn {w : World} {d : Nat} {F : Int → Option Ses} {n : Nat} {Z : Nat → Prop} {mb : Nat} {D : DataW Unit} {bl : Int → Nat} (i : DkI w d F n Z mb D bl) {c : Cl} {s s' : Ses} (hF : F c.v = some s) (hk : 2 ≤ c.k ∧ c.k ≤ 4) (ok : SesOk s') (hX : ssX s c = some s')
  {vs vb : Value} {W0 W1 : World} (h : AsS w c vs vb W0) {a : Option Addr} {m k : Nat} {a' : Option Addr} {m' k' : Nat} (hB : OwnB W0.heap.size W1 (.slice a m k) (ssW s c)) (hL : Own W0.heap.size W1 (.slice a' m' k') (ssZ s c)) (hb : BlkV W1 (bl c.v) 134 (sesC s')) (g : W0.grownBy W1 (some (bl c.v))) :
  BlkV (putV W1 (w.heap.size + 1) 0 (ansC (ssY s c) 0 (.slice a m k) (.slice a' m' k'))) (w.heap.size + 1) 34 (ansC (ssY s c) 0 (.slice a m k) (.slice a' m' k')) ∧ BlkV W1 (w.heap.size + 1) 34 (ansC 0 0 (.slice none 0 0) (.slice none 0 0)) ∧ DkE w d F n Z c 0 (.returned (.agg (ansC (ssY s c) 0 (.slice a m k) (.slice a' m' k')).toArray)) (putV W1 (w.heap.size + 1) 0 (ansC (ssY s c) 0 (.slice a m k) (.slice a' m' k'))) := by
 have hz := (i.bk c.v s hF).2
 have hlt := i.zl _ hz
 have hs := h.size
 have A1 := h.an.keepBut g (by omega)
 have P := ansP (en' := ssY s c) (v' := 0) (vb' := .slice a m k) (vl' := .slice a' m' k') A1
 have g2 := grown_but h.gr g P.2 (by omega)
 have e1 : ¬ c.k = 1 := by omega
 have e2 : 2 ≤ c.k ∧ c.k ≤ 5 := by omega
 have e3 : ¬ c.k = 5 := by omega
 refine ⟨P.1, A1, .slice a m k, .slice a' m' k', ?_, ?_, ?_, Z, some (bl c.v), ⟨mb, D, bl, ?_⟩, fun b hb => .inl hb, g2, fun b e => by cases e; exact hz⟩
 ·unfold dkC
  rw [if_neg e1, if_pos e2, hF]
  rfl
 ·unfold dkB
  rw [if_pos e2, hF]
  exact (hB.base (b' := w.heap.size + 2) (by omega)).keepLt P.2 (by omega) |>.base (by omega)
 ·unfold dkL
  rw [if_pos e2, hF]
  exact (hL.base (b' := w.heap.size + 2) (by omega)).keepLt P.2 (by omega) |>.base (by omega)
 ·have t := i.turn hF ok g2 (hb.keepBut P.2 (by omega))
  have f1 : dkF F n c = putS F c.v (some s') := by
   unfold dkF dkO
   rw [if_neg e1, if_pos e2, hF]
   simp only [hX]
  have f2 : dkN (F c.v) n c = n := by
   unfold dkN
   rw [if_neg e1, if_neg e3]
  rw [f1, f2]
  exact t
theorem dkE_same {w : World} {d : Nat} {F : Int → Option Ses} {n : Nat} {Z : Nat → Prop} (i : DkW w d F n Z) {c : Cl} {en : Int} (hC : dkC (F c.v) n c = en) (hB : dkB (F c.v) c = []) (hL : dkL (F c.v) c = []) (hF : dkF F n c = F) (hN : dkN (F c.v) n c = n)
  {A : Nat} {W0 : World} (hA : BlkV W0 A 34 (ansC 0 0 (.slice none 0 0) (.slice none 0 0))) (g : w.grownBy W0 none) (hw : w.heap.size ≤ A) :
  BlkV (putV W0 A 0 (ansC en 0 (.slice none 0 0) (.slice none 0 0))) A 34 (ansC en 0 (.slice none 0 0) (.slice none 0 0)) ∧ DkE w d F n Z c 0 (.returned (.agg (ansC en 0 (.slice none 0 0) (.slice none 0 0)).toArray)) (putV W0 A 0 (ansC en 0 (.slice none 0 0) (.slice none 0 0))) := by
 have P := ansP (en' := en) (v' := 0) (vb' := (.slice none 0 0)) (vl' := (.slice none 0 0)) hA
 have g2 := grown_own g P.2 hw
 refine ⟨P.1, (.slice none 0 0), (.slice none 0 0), by rw [hC]; rfl, by rw [hB]; exact OwnB_nil _ _, by rw [hL]; exact Own_nil _ _, Z, none, ?_, fun b hb => .inl hb, g2, fun b e => by cases e⟩
 rw [hF, hN]
 exact i.keep g2
theorem dkE_less {w : World} {d : Nat} {F : Int → Option Ses} {n : Nat} {Z : Nat → Prop} {mb : Nat} {D : DataW Unit} {bl : Int → Nat} (i : DkI w d F n Z mb D bl) {c : Cl} {s : Ses} (hF : F c.v = some s) (hk : c.k = 5) {vs vb : Value} {W0 W1 : World} (h : AsS w c vs vb W0) (hm : W1.ownsMap Tryz.prog 3 ptrE mb n (D.del (.int .i64 c.v))) (g : W0.grownBy W1 (some mb)) :
  BlkV (putV W1 (w.heap.size + 1) 0 (ansC 0 0 (.slice none 0 0) (.slice none 0 0))) (w.heap.size + 1) 34 (ansC 0 0 (.slice none 0 0) (.slice none 0 0)) ∧ BlkV W1 (w.heap.size + 1) 34 (ansC 0 0 (.slice none 0 0) (.slice none 0 0)) ∧ DkE w d F n Z c 0 (.returned (.agg (ansC 0 0 (.slice none 0 0) (.slice none 0 0)).toArray)) (putV W1 (w.heap.size + 1) 0 (ansC 0 0 (.slice none 0 0) (.slice none 0 0))) := by
 have hlt := i.zl _ i.zm
 have hs := h.size
 have A1 := h.an.keepBut g (by omega)
 have P := ansP (en' := 0) (v' := 0) (vb' := (.slice none 0 0)) (vl' := (.slice none 0 0)) A1
 have g2 := grown_but h.gr g P.2 (by omega)
 refine ⟨P.1, A1, (.slice none 0 0), (.slice none 0 0), ?_, ?_, ?_, Z, some mb, ⟨mb, D.del (.int .i64 c.v), bl, ?_⟩, fun b hb => .inl hb, g2, fun b e => by cases e; exact i.zm⟩
 ·unfold dkC ssY
  rw [if_neg (by omega), if_pos (by omega), hF]
  simp only [hk]
  rfl
 ·unfold dkB ssW
  rw [if_pos (by omega), hF]
  simp only [hk]
  exact OwnB_nil _ _
 ·unfold dkL ssZ
  rw [if_pos (by omega), hF]
  simp only [hk]
  exact Own_nil _ _
 ·have t := i.less hF g2 (hm.kept P.2 (by simp; omega))
  have f1 : dkF F n c = putS F c.v none := by
   unfold dkF dkO ssX
   rw [if_neg (by omega), if_pos (by omega), hF]
   simp only [hk]
   rfl
  have f2 : dkN (F c.v) n c = n - 1 := by
   unfold dkN
   rw [if_neg (by omega), if_pos hk, hF]
  rw [f1, f2]
  exact t
set_option maxRecDepth 100000 in
theorem dkAsked_none (d : Nat) (F : Int → Option Ses) (n : Nat) (Z : Nat → Prop) (mb : Nat) (D : DataW Unit) (bl : Int → Nat) (c : Cl) (a1 : Option Addr) (n1 c1 : Nat) (a2 : Option Addr) (n2 c2 : Nat) (w : World) (i : DkI w d F n Z mb D bl) (hv : In1 c.v) (hF : F c.v = none) (hk : 2 ≤ c.k ∧ c.k ≤ 5) : Calls Tryz.prog 42 #[.pointer (some ⟨d, 0, none⟩), clV c (.slice a1 n1 c1) (.slice a2 n2 c2)] w (DkE w d F n Z c 0) := by
 have hz := zAns
 have AS := hide (AsS.new w c (.slice a1 n1 c1) (.slice a2 n2 c2))
 have DB0 := hide i.dk
 have LK0 := hide (fun u (g : w.grownBy u none) => by have := (i.keep g).look hv; unfold ptV at this; rw [hF] at this; exact this)
 have FN := hide (fun (W0 : World) (h : AsS w c (.slice a1 n1 c1) (.slice a2 n2 c2) W0) => dkE_same (c := c) (en := 6) ⟨mb, D, bl, i⟩ (by unfold dkC; rw [if_neg (by omega), if_pos hk, hF]) (by unfold dkB; rw [if_pos hk, hF]) (by unfold dkL; rw [if_pos hk, hF]) (by unfold dkF dkO; rw [if_neg (by omega), if_pos hk]; have := putS_self F c.v; rw [hF] at this ⊢; exact this) (by unfold dkN; rw [if_neg (by omega)]; split; rw [hF]; rfl) h.an h.gr (by omega))
 have be := build_ansE 6
 clear i hF hk
 generalize DkE w d F n Z c 0 = T at *
 unfold clV
 go_enter Tryz.func42, Tryz.ntmps42
 go_upto_region 1 with fail
 change Code.wp _ _ _ _ ((w.alloc (.cells (clC c (.slice a1 n1 c1) (.slice a2 n2 c2)).toArray 37)).alloc (.cells (ansC 0 0 (.slice none 0 0) (.slice none 0 0)).toArray 34))
 generalize (w.alloc (.cells (clC c (.slice a1 n1 c1) (.slice a2 n2 c2)).toArray 37)).alloc (.cells (ansC 0 0 (.slice none 0 0) (.slice none 0 0)).toArray 34) = W0 at *
 have DB := hide (DB0.out.keep AS.out.gr)
 have LK := hide (fun u (g : W0.grownBy u none) => LK0.out u (grown_none AS.out.gr g))
 refine wp_region_held_drew (S := GrownW W0) (by kernel_rfl) (gw_start _) (fun hHeld => ?_)
 refine wpAnyH_take (i := 0) (v := ?vas0) rfl (by kernel_rfl) (by kernel_rfl) (by kernel_rfl) (fun _ _ _ h => h) (Or.inl ⟨by rfl, ?yas0⟩) hHeld ?ras0
 case yas0 => (intro w' hSw; go_simp; (try with_reducible rfl))
 (try simp only [Act.put, sL])
 refine wpAnyH_take (i := 1) (v := ?vas1) rfl (by kernel_rfl) (by kernel_rfl) (by kernel_rfl) (fun _ _ _ h => h) (Or.inl ⟨by rfl, ?yas1⟩) hHeld ?ras1
 case yas1 => (intro w' hSw; go_simp; (try with_reducible rfl))
 (try simp only [Act.put, sL])
 refine wpAnyH_take (i := 2) (v := ?vas2) rfl (by kernel_rfl) (by kernel_rfl) (by kernel_rfl) (fun _ _ _ h => h) (Or.inl ⟨by rfl, ?yas2⟩) hHeld ?ras2
 case yas2 => (intro w' hSw; go_simp; (try with_reducible rfl))
 (try simp only [Act.put, sL])
 refine wpAnyH_take (i := 3) (v := .map (some mb)) rfl (by kernel_rfl) (by kernel_rfl) (by kernel_rfl) (fun _ _ _ h => h) (Or.inl ⟨by rfl, ?yas3⟩) hHeld ?ras3
 case yas3 => (intro w' hSw; have cc := BlkV.cell (DB.out.keep hSw) 0; simp at cc; go_simp; (try with_reducible rfl))
 (try simp only [Act.put, sL])
 refine wpAnyH_take (i := 4) (v := ?vas4) rfl (by kernel_rfl) (by kernel_rfl) (by kernel_rfl) (fun _ _ _ h => h) (Or.inl ⟨by rfl, ?yas4⟩) hHeld ?ras4
 case yas4 => (intro w' hSw; go_simp; (try with_reducible rfl))
 (try simp only [Act.put, sL])
 refine wpAnyH_take (i := 5) (v := .int .i64 c.v) rfl (by kernel_rfl) (by kernel_rfl) (by kernel_rfl) (fun _ _ _ h => h) (Or.inl ⟨by rfl, ?yas5⟩) hHeld ?ras5
 case yas5 => (intro w' hSw; have cc := BlkV.cell ((AS.out.keep hSw).cl) 1; simp [clC] at cc; go_simp; (try with_reducible rfl))
 (try simp only [Act.put, sL])
 refine wpAnyH_take (i := 6) (v := .pointer none) rfl (by kernel_rfl) (by kernel_rfl) (by kernel_rfl) (fun _ _ _ h => h) (Or.inl ⟨by rfl, ?yas6⟩) hHeld ?ras6
 case yas6 => (intro w' hSw; have cc := LK.out _ hSw; go_simp; (try simp only [cc]); (try with_reducible rfl))
 (try simp only [Act.put, sL])
 refine wpAnyH_take (i := 7) (v := ?vas7) rfl (by kernel_rfl) (by kernel_rfl) (by kernel_rfl) (fun _ _ _ h => h) (Or.inl ⟨by rfl, ?yas7⟩) hHeld ?ras7
 case yas7 => (intro w' hSw; go_simp; (try with_reducible rfl))
 (try simp only [Act.put, sL])
 refine wpAnyH_done (by kernel_rfl) ?_ _
 have AS1 := hide (AS.out.keep (gw_start W0))
 clear hHeld AS DB LK DB0 LK0
 generalize W0.drew = W1 at *
 have FI := FN.out _ AS1.out
 have FF := hide FI.2
 have hlv := loadA FI.1
 have AA := hide AS1.out.an
 have O1 := hide (ansC_one 6 0 none 0 0 none 0 0)
 clear FI FN AS1
 go_wp2_with (first | refine wpList_store_v rfl 34 _ _ rfl (w.heap.size + 1) 0 34 (ansC 0 0 (.slice none 0 0) (.slice none 0 0)) (ansC 6 0 (.slice none 0 0) (.slice none 0 0)) rfl rfl AA.out (by simp [ansC_len]) size4a O1.out ?_)
 refine bodyPost_ret (v := .agg (ansC 6 0 (.slice none 0 0) (.slice none 0 0)).toArray) ?_ rfl FF.out
 simp [results, Tryz.results42, asAddr, Act.put, hlv]
set_option maxRecDepth 100000 in
theorem dkAsked_enc (W : World) (pc : CEn 20 W) (d : Nat) (F : Int → Option Ses) (n : Nat) (Z : Nat → Prop) (mb : Nat) (D : DataW Unit) (bl : Int → Nat) (c : Cl) (a1 : Option Addr) (n1 c1 : Nat) (a2 : Option Addr) (n2 c2 : Nat) (w : World) (i : DkI w d F n Z mb D bl) (s : Ses) (gw : W.grownBy w none) (hc : ClOk w c (.slice a1 n1 c1) (.slice a2 n2 c2)) (hF : F c.v = some s) (hk : c.k = 2) : Calls Tryz.prog 42 #[.pointer (some ⟨d, 0, none⟩), clV c (.slice a1 n1 c1) (.slice a2 n2 c2)] w (DkE w d F n Z c 0) := by
 have hv := hc.hv
 have hz := zAns
 have AS := hide (AsS.new w c (.slice a1 n1 c1) (.slice a2 n2 c2))
 have DB0 := hide i.dk
 have LK0 := hide (fun u (g : w.grownBy u none) => by have := (i.keep g).look hv; unfold ptV at this; rw [hF] at this; exact this)
 have hk3 : 2 ≤ c.k ∧ c.k ≤ 4 := by omega
 have FN := hide (fun (W0 W1 : World) (h : AsS w c (.slice a1 n1 c1) (.slice a2 n2 c2) W0) a m k a' m' k' hB hL hb g => dkE_turn i hF hk3 ((fun q => ssE_ok q c.l c.r) (i.ok c.v s hF)) (by unfold ssX; simp [hk]) (W1 := W1) h (a := a) (m := m) (k := k) (a' := a') (m' := m') (k' := k') hB hL hb g)
 have CA := hide (fun (W0 : World) (h : AsS w c (.slice a1 n1 c1) (.slice a2 n2 c2) W0) => dkEncoded_any W pc (bl c.v) s (i.ok c.v s hF) (.slice a1 n1 c1) c.l c.r W0 (grown_none gw h.gr) ((i.keep h.gr).bk c.v s hF).1 (Ints_keep hc.il h.gr) hc.sl hc.ll hc.nl)
 have E0 : ssY s c = encE s.e c.l := by unfold ssY; simp [hk]
 have E1 : ssW s c = encB s.e c.l c.r := by unfold ssW; simp [hk]
 have E2 : ssZ s c = encL s.e c.l c.r := by unfold ssZ; simp [hk]
 unfold SsE at CA
 rw [← E0, ← E1, ← E2] at CA
 have HK := hide hk
 clear i hc hF E0 E1 E2 hk3 gw hk
 generalize DkE w d F n Z c 0 = T at *
 unfold clV
 go_enter Tryz.func42, Tryz.ntmps42
 go_upto_region 1 with fail
 change Code.wp _ _ _ _ ((w.alloc (.cells (clC c (.slice a1 n1 c1) (.slice a2 n2 c2)).toArray 37)).alloc (.cells (ansC 0 0 (.slice none 0 0) (.slice none 0 0)).toArray 34))
 generalize (w.alloc (.cells (clC c (.slice a1 n1 c1) (.slice a2 n2 c2)).toArray 37)).alloc (.cells (ansC 0 0 (.slice none 0 0) (.slice none 0 0)).toArray 34) = W0 at *
 have DB := hide (DB0.out.keep AS.out.gr)
 have LK := hide (fun u (g : W0.grownBy u none) => LK0.out u (grown_none AS.out.gr g))
 refine wp_region_held_drew (S := GrownW W0) (by kernel_rfl) (gw_start _) (fun hHeld => ?_)
 refine wpAnyH_take (i := 0) (v := ?vas0) rfl (by kernel_rfl) (by kernel_rfl) (by kernel_rfl) (fun _ _ _ h => h) (Or.inl ⟨by rfl, ?yas0⟩) hHeld ?ras0
 case yas0 => (intro w' hSw; go_simp; (try with_reducible rfl))
 (try simp only [Act.put, sL])
 refine wpAnyH_take (i := 1) (v := ?vas1) rfl (by kernel_rfl) (by kernel_rfl) (by kernel_rfl) (fun _ _ _ h => h) (Or.inl ⟨by rfl, ?yas1⟩) hHeld ?ras1
 case yas1 => (intro w' hSw; go_simp; (try with_reducible rfl))
 (try simp only [Act.put, sL])
 refine wpAnyH_take (i := 2) (v := ?vas2) rfl (by kernel_rfl) (by kernel_rfl) (by kernel_rfl) (fun _ _ _ h => h) (Or.inl ⟨by rfl, ?yas2⟩) hHeld ?ras2
 case yas2 => (intro w' hSw; go_simp; (try with_reducible rfl))
 (try simp only [Act.put, sL])
 refine wpAnyH_take (i := 3) (v := .map (some mb)) rfl (by kernel_rfl) (by kernel_rfl) (by kernel_rfl) (fun _ _ _ h => h) (Or.inl ⟨by rfl, ?yas3⟩) hHeld ?ras3
 case yas3 => (intro w' hSw; have cc := BlkV.cell (DB.out.keep hSw) 0; simp at cc; go_simp; (try with_reducible rfl))
 (try simp only [Act.put, sL])
 refine wpAnyH_take (i := 4) (v := ?vas4) rfl (by kernel_rfl) (by kernel_rfl) (by kernel_rfl) (fun _ _ _ h => h) (Or.inl ⟨by rfl, ?yas4⟩) hHeld ?ras4
 case yas4 => (intro w' hSw; go_simp; (try with_reducible rfl))
 (try simp only [Act.put, sL])
 refine wpAnyH_take (i := 5) (v := .int .i64 c.v) rfl (by kernel_rfl) (by kernel_rfl) (by kernel_rfl) (fun _ _ _ h => h) (Or.inl ⟨by rfl, ?yas5⟩) hHeld ?ras5
 case yas5 => (intro w' hSw; have cc := BlkV.cell ((AS.out.keep hSw).cl) 1; simp [clC] at cc; go_simp; (try with_reducible rfl))
 (try simp only [Act.put, sL])
 refine wpAnyH_take (i := 6) (v := .pointer (some ⟨bl c.v, 0, none⟩)) rfl (by kernel_rfl) (by kernel_rfl) (by kernel_rfl) (fun _ _ _ h => h) (Or.inl ⟨by rfl, ?yas6⟩) hHeld ?ras6
 case yas6 => (intro w' hSw; have cc := LK.out _ hSw; go_simp; (try simp only [cc]); (try with_reducible rfl))
 (try simp only [Act.put, sL])
 refine wpAnyH_take (i := 7) (v := ?vas7) rfl (by kernel_rfl) (by kernel_rfl) (by kernel_rfl) (fun _ _ _ h => h) (Or.inl ⟨by rfl, ?yas7⟩) hHeld ?ras7
 case yas7 => (intro w' hSw; go_simp; (try with_reducible rfl))
 (try simp only [Act.put, sL])
 refine wpAnyH_done (by kernel_rfl) ?_ _
 have AS1 := hide (AS.out.keep (gw_start W0))
 clear hHeld AS DB LK DB0 LK0
 generalize W0.drew = W1 at *
 have C1 := hide (CA.out W1 AS1.out)
 have kc0 := BlkV.cell AS1.out.cl 0
 have kc2 := BlkV.cell AS1.out.cl 2
 have kc3 := BlkV.cell AS1.out.cl 3
 have kc4 := BlkV.cell AS1.out.cl 4
 simp [clC] at kc0 kc2 kc3 kc4
 rw [HK.out] at kc0
 clear CA
 generalize bl c.v = bb at *
 go_wp2_with fail
 refine C1.out.mono ?_
 rintro x W2 ⟨a, m, k, a', m', k', rfl, oB, oL, hb, g⟩
 have FI := FN.out W1 W2 AS1.out a m k a' m' k' oB oL hb g
 have FF := hide FI.2.2
 have hlv := loadA FI.1
 have AA := hide FI.2.1
 have O1 := hide (ansC_one (ssY s c) 0 a m k a' m' k')
 clear FI FN AS1 oB oL hb g C1 kc0 kc2 kc3 kc4
 generalize ssY s c = en at *
 unfold ansV
 go_wp2_with (first | refine wpList_store_v rfl 34 _ _ rfl (w.heap.size + 1) 0 34 (ansC 0 0 (.slice none 0 0) (.slice none 0 0)) (ansC en 0 (.slice a m k) (.slice a' m' k')) rfl rfl AA.out (by simp [ansC_len]) size4a O1.out ?_)
 refine bodyPost_ret (v := .agg (ansC en 0 (.slice a m k) (.slice a' m' k')).toArray) ?_ rfl FF.out
 simp [results, Tryz.results42, asAddr, Act.put, hlv]
set_option maxRecDepth 100000 in
theorem dkAsked_dec (W : World) (pd : CDe 22 W) (d : Nat) (F : Int → Option Ses) (n : Nat) (Z : Nat → Prop) (mb : Nat) (D : DataW Unit) (bl : Int → Nat) (c : Cl) (a1 : Option Addr) (n1 c1 : Nat) (a2 : Option Addr) (n2 c2 : Nat) (w : World) (i : DkI w d F n Z mb D bl) (s : Ses) (gw : W.grownBy w none) (hc : ClOk w c (.slice a1 n1 c1) (.slice a2 n2 c2)) (hF : F c.v = some s) (hk : c.k = 3) : Calls Tryz.prog 42 #[.pointer (some ⟨d, 0, none⟩), clV c (.slice a1 n1 c1) (.slice a2 n2 c2)] w (DkE w d F n Z c 0) := by
 have hv := hc.hv
 have hz := zAns
 have AS := hide (AsS.new w c (.slice a1 n1 c1) (.slice a2 n2 c2))
 have DB0 := hide i.dk
 have LK0 := hide (fun u (g : w.grownBy u none) => by have := (i.keep g).look hv; unfold ptV at this; rw [hF] at this; exact this)
 have hk3 : 2 ≤ c.k ∧ c.k ≤ 4 := by omega
 have FN := hide (fun (W0 W1 : World) (h : AsS w c (.slice a1 n1 c1) (.slice a2 n2 c2) W0) a m k a' m' k' hB hL hb g => dkE_turn i hF hk3 ((fun q => ssD_ok q c.b) (i.ok c.v s hF)) (by unfold ssX; simp [hk]) (W1 := W1) h (a := a) (m := m) (k := k) (a' := a') (m' := m') (k' := k') hB hL hb g)
 have CA := hide (fun (W0 : World) (h : AsS w c (.slice a1 n1 c1) (.slice a2 n2 c2) W0) => dkDecoded_any W pd (bl c.v) s (i.ok c.v s hF) (.slice a2 n2 c2) c.b W0 (grown_none gw h.gr) ((i.keep h.gr).bk c.v s hF).1 (Byts_keep hc.ib h.gr) hc.sb hc.bb hc.nb)
 have E0 : ssY s c = decE s.m c.b := by unfold ssY; simp [hk]
 have E1 : ssW s c = [] := by unfold ssW; simp [hk]
 have E2 : ssZ s c = decL s.m c.b := by unfold ssZ; simp [hk]
 unfold SsE at CA
 rw [← E0, ← E1, ← E2] at CA
 have HK := hide hk
 clear i hc hF E0 E1 E2 hk3 gw hk
 generalize DkE w d F n Z c 0 = T at *
 unfold clV
 go_enter Tryz.func42, Tryz.ntmps42
 go_upto_region 1 with fail
 change Code.wp _ _ _ _ ((w.alloc (.cells (clC c (.slice a1 n1 c1) (.slice a2 n2 c2)).toArray 37)).alloc (.cells (ansC 0 0 (.slice none 0 0) (.slice none 0 0)).toArray 34))
 generalize (w.alloc (.cells (clC c (.slice a1 n1 c1) (.slice a2 n2 c2)).toArray 37)).alloc (.cells (ansC 0 0 (.slice none 0 0) (.slice none 0 0)).toArray 34) = W0 at *
 have DB := hide (DB0.out.keep AS.out.gr)
 have LK := hide (fun u (g : W0.grownBy u none) => LK0.out u (grown_none AS.out.gr g))
 refine wp_region_held_drew (S := GrownW W0) (by kernel_rfl) (gw_start _) (fun hHeld => ?_)
 refine wpAnyH_take (i := 0) (v := ?vas0) rfl (by kernel_rfl) (by kernel_rfl) (by kernel_rfl) (fun _ _ _ h => h) (Or.inl ⟨by rfl, ?yas0⟩) hHeld ?ras0
 case yas0 => (intro w' hSw; go_simp; (try with_reducible rfl))
 (try simp only [Act.put, sL])
 refine wpAnyH_take (i := 1) (v := ?vas1) rfl (by kernel_rfl) (by kernel_rfl) (by kernel_rfl) (fun _ _ _ h => h) (Or.inl ⟨by rfl, ?yas1⟩) hHeld ?ras1
 case yas1 => (intro w' hSw; go_simp; (try with_reducible rfl))
 (try simp only [Act.put, sL])
 refine wpAnyH_take (i := 2) (v := ?vas2) rfl (by kernel_rfl) (by kernel_rfl) (by kernel_rfl) (fun _ _ _ h => h) (Or.inl ⟨by rfl, ?yas2⟩) hHeld ?ras2
 case yas2 => (intro w' hSw; go_simp; (try with_reducible rfl))
 (try simp only [Act.put, sL])
 refine wpAnyH_take (i := 3) (v := .map (some mb)) rfl (by kernel_rfl) (by kernel_rfl) (by kernel_rfl) (fun _ _ _ h => h) (Or.inl ⟨by rfl, ?yas3⟩) hHeld ?ras3
 case yas3 => (intro w' hSw; have cc := BlkV.cell (DB.out.keep hSw) 0; simp at cc; go_simp; (try with_reducible rfl))
 (try simp only [Act.put, sL])
 refine wpAnyH_take (i := 4) (v := ?vas4) rfl (by kernel_rfl) (by kernel_rfl) (by kernel_rfl) (fun _ _ _ h => h) (Or.inl ⟨by rfl, ?yas4⟩) hHeld ?ras4
 case yas4 => (intro w' hSw; go_simp; (try with_reducible rfl))
 (try simp only [Act.put, sL])
 refine wpAnyH_take (i := 5) (v := .int .i64 c.v) rfl (by kernel_rfl) (by kernel_rfl) (by kernel_rfl) (fun _ _ _ h => h) (Or.inl ⟨by rfl, ?yas5⟩) hHeld ?ras5
 case yas5 => (intro w' hSw; have cc := BlkV.cell ((AS.out.keep hSw).cl) 1; simp [clC] at cc; go_simp; (try with_reducible rfl))
 (try simp only [Act.put, sL])
 refine wpAnyH_take (i := 6) (v := .pointer (some ⟨bl c.v, 0, none⟩)) rfl (by kernel_rfl) (by kernel_rfl) (by kernel_rfl) (fun _ _ _ h => h) (Or.inl ⟨by rfl, ?yas6⟩) hHeld ?ras6
 case yas6 => (intro w' hSw; have cc := LK.out _ hSw; go_simp; (try simp only [cc]); (try with_reducible rfl))
 (try simp only [Act.put, sL])
 refine wpAnyH_take (i := 7) (v := ?vas7) rfl (by kernel_rfl) (by kernel_rfl) (by kernel_rfl) (fun _ _ _ h => h) (Or.inl ⟨by rfl, ?yas7⟩) hHeld ?ras7
 case yas7 => (intro w' hSw; go_simp; (try with_reducible rfl))
 (try simp only [Act.put, sL])
 refine wpAnyH_done (by kernel_rfl) ?_ _
 have AS1 := hide (AS.out.keep (gw_start W0))
 clear hHeld AS DB LK DB0 LK0
 generalize W0.drew = W1 at *
 have C1 := hide (CA.out W1 AS1.out)
 have kc0 := BlkV.cell AS1.out.cl 0
 have kc2 := BlkV.cell AS1.out.cl 2
 have kc3 := BlkV.cell AS1.out.cl 3
 have kc4 := BlkV.cell AS1.out.cl 4
 simp [clC] at kc0 kc2 kc3 kc4
 rw [HK.out] at kc0
 clear CA
 generalize bl c.v = bb at *
 go_wp2_with fail
 refine C1.out.mono ?_
 rintro x W2 ⟨a, m, k, a', m', k', rfl, oB, oL, hb, g⟩
 have FI := FN.out W1 W2 AS1.out a m k a' m' k' oB oL hb g
 have FF := hide FI.2.2
 have hlv := loadA FI.1
 have AA := hide FI.2.1
 have O1 := hide (ansC_one (ssY s c) 0 a m k a' m' k')
 clear FI FN AS1 oB oL hb g C1 kc0 kc2 kc3 kc4
 generalize ssY s c = en at *
 unfold ansV
 go_wp2_with (first | refine wpList_store_v rfl 34 _ _ rfl (w.heap.size + 1) 0 34 (ansC 0 0 (.slice none 0 0) (.slice none 0 0)) (ansC en 0 (.slice a m k) (.slice a' m' k')) rfl rfl AA.out (by simp [ansC_len]) size4a O1.out ?_)
 refine bodyPost_ret (v := .agg (ansC en 0 (.slice a m k) (.slice a' m' k')).toArray) ?_ rfl FF.out
 simp [results, Tryz.results42, asAddr, Act.put, hlv]
set_option maxRecDepth 100000 in
theorem dkAsked_ers (W : World) (pe : CErs 23 W) (d : Nat) (F : Int → Option Ses) (n : Nat) (Z : Nat → Prop) (mb : Nat) (D : DataW Unit) (bl : Int → Nat) (c : Cl) (a1 : Option Addr) (n1 c1 : Nat) (a2 : Option Addr) (n2 c2 : Nat) (w : World) (i : DkI w d F n Z mb D bl) (s : Ses) (gw : W.grownBy w none) (hc : ClOk w c (.slice a1 n1 c1) (.slice a2 n2 c2)) (hF : F c.v = some s) (hk : c.k = 4) : Calls Tryz.prog 42 #[.pointer (some ⟨d, 0, none⟩), clV c (.slice a1 n1 c1) (.slice a2 n2 c2)] w (DkE w d F n Z c 0) := by
 have hv := hc.hv
 have hz := zAns
 have AS := hide (AsS.new w c (.slice a1 n1 c1) (.slice a2 n2 c2))
 have DB0 := hide i.dk
 have LK0 := hide (fun u (g : w.grownBy u none) => by have := (i.keep g).look hv; unfold ptV at this; rw [hF] at this; exact this)
 have hk3 : 2 ≤ c.k ∧ c.k ≤ 4 := by omega
 have FN := hide (fun (W0 W1 : World) (h : AsS w c (.slice a1 n1 c1) (.slice a2 n2 c2) W0) a m k a' m' k' hB hL hb g => dkE_turn i hF hk3 ((fun q => ssR_ok q) (i.ok c.v s hF)) (by unfold ssX; simp [hk]) (W1 := W1) h (a := a) (m := m) (k := k) (a' := a') (m' := m') (k' := k') hB hL hb g)
 have CA := hide (fun (W0 : World) (h : AsS w c (.slice a1 n1 c1) (.slice a2 n2 c2) W0) => dkErased_any W pe (bl c.v) s (i.ok c.v s hF) W0 (grown_none gw h.gr) ((i.keep h.gr).bk c.v s hF).1)
 have E0 : ssY s c = ersE s.m := by unfold ssY; simp [hk]
 have E1 : ssW s c = [] := by unfold ssW; simp [hk]
 have E2 : ssZ s c = ersL s.m := by unfold ssZ; simp [hk]
 unfold SsE at CA
 rw [← E0, ← E1, ← E2] at CA
 have HK := hide hk
 clear i hc hF E0 E1 E2 hk3 gw hk
 generalize DkE w d F n Z c 0 = T at *
 unfold clV
 go_enter Tryz.func42, Tryz.ntmps42
 go_upto_region 1 with fail
 change Code.wp _ _ _ _ ((w.alloc (.cells (clC c (.slice a1 n1 c1) (.slice a2 n2 c2)).toArray 37)).alloc (.cells (ansC 0 0 (.slice none 0 0) (.slice none 0 0)).toArray 34))
 generalize (w.alloc (.cells (clC c (.slice a1 n1 c1) (.slice a2 n2 c2)).toArray 37)).alloc (.cells (ansC 0 0 (.slice none 0 0) (.slice none 0 0)).toArray 34) = W0 at *
 have DB := hide (DB0.out.keep AS.out.gr)
 have LK := hide (fun u (g : W0.grownBy u none) => LK0.out u (grown_none AS.out.gr g))
 refine wp_region_held_drew (S := GrownW W0) (by kernel_rfl) (gw_start _) (fun hHeld => ?_)
 refine wpAnyH_take (i := 0) (v := ?vas0) rfl (by kernel_rfl) (by kernel_rfl) (by kernel_rfl) (fun _ _ _ h => h) (Or.inl ⟨by rfl, ?yas0⟩) hHeld ?ras0
 case yas0 => (intro w' hSw; go_simp; (try with_reducible rfl))
 (try simp only [Act.put, sL])
 refine wpAnyH_take (i := 1) (v := ?vas1) rfl (by kernel_rfl) (by kernel_rfl) (by kernel_rfl) (fun _ _ _ h => h) (Or.inl ⟨by rfl, ?yas1⟩) hHeld ?ras1
 case yas1 => (intro w' hSw; go_simp; (try with_reducible rfl))
 (try simp only [Act.put, sL])
 refine wpAnyH_take (i := 2) (v := ?vas2) rfl (by kernel_rfl) (by kernel_rfl) (by kernel_rfl) (fun _ _ _ h => h) (Or.inl ⟨by rfl, ?yas2⟩) hHeld ?ras2
 case yas2 => (intro w' hSw; go_simp; (try with_reducible rfl))
 (try simp only [Act.put, sL])
 refine wpAnyH_take (i := 3) (v := .map (some mb)) rfl (by kernel_rfl) (by kernel_rfl) (by kernel_rfl) (fun _ _ _ h => h) (Or.inl ⟨by rfl, ?yas3⟩) hHeld ?ras3
 case yas3 => (intro w' hSw; have cc := BlkV.cell (DB.out.keep hSw) 0; simp at cc; go_simp; (try with_reducible rfl))
 (try simp only [Act.put, sL])
 refine wpAnyH_take (i := 4) (v := ?vas4) rfl (by kernel_rfl) (by kernel_rfl) (by kernel_rfl) (fun _ _ _ h => h) (Or.inl ⟨by rfl, ?yas4⟩) hHeld ?ras4
 case yas4 => (intro w' hSw; go_simp; (try with_reducible rfl))
 (try simp only [Act.put, sL])
 refine wpAnyH_take (i := 5) (v := .int .i64 c.v) rfl (by kernel_rfl) (by kernel_rfl) (by kernel_rfl) (fun _ _ _ h => h) (Or.inl ⟨by rfl, ?yas5⟩) hHeld ?ras5
 case yas5 => (intro w' hSw; have cc := BlkV.cell ((AS.out.keep hSw).cl) 1; simp [clC] at cc; go_simp; (try with_reducible rfl))
 (try simp only [Act.put, sL])
 refine wpAnyH_take (i := 6) (v := .pointer (some ⟨bl c.v, 0, none⟩)) rfl (by kernel_rfl) (by kernel_rfl) (by kernel_rfl) (fun _ _ _ h => h) (Or.inl ⟨by rfl, ?yas6⟩) hHeld ?ras6
 case yas6 => (intro w' hSw; have cc := LK.out _ hSw; go_simp; (try simp only [cc]); (try with_reducible rfl))
 (try simp only [Act.put, sL])
 refine wpAnyH_take (i := 7) (v := ?vas7) rfl (by kernel_rfl) (by kernel_rfl) (by kernel_rfl) (fun _ _ _ h => h) (Or.inl ⟨by rfl, ?yas7⟩) hHeld ?ras7
 case yas7 => (intro w' hSw; go_simp; (try with_reducible rfl))
 (try simp only [Act.put, sL])
 refine wpAnyH_done (by kernel_rfl) ?_ _
 have AS1 := hide (AS.out.keep (gw_start W0))
 clear hHeld AS DB LK DB0 LK0
 generalize W0.drew = W1 at *
 have C1 := hide (CA.out W1 AS1.out)
 have kc0 := BlkV.cell AS1.out.cl 0
 have kc2 := BlkV.cell AS1.out.cl 2
 have kc3 := BlkV.cell AS1.out.cl 3
 have kc4 := BlkV.cell AS1.out.cl 4
 simp [clC] at kc0 kc2 kc3 kc4
 rw [HK.out] at kc0
 clear CA
 generalize bl c.v = bb at *
 go_wp2_with fail
 refine C1.out.mono ?_
 rintro x W2 ⟨a, m, k, a', m', k', rfl, oB, oL, hb, g⟩
 have FI := FN.out W1 W2 AS1.out a m k a' m' k' oB oL hb g
 have FF := hide FI.2.2
 have hlv := loadA FI.1
 have AA := hide FI.2.1
 have O1 := hide (ansC_one (ssY s c) 0 a m k a' m' k')
 clear FI FN AS1 oB oL hb g C1 kc0 kc2 kc3 kc4
 generalize ssY s c = en at *
 unfold ansV
 go_wp2_with (first | refine wpList_store_v rfl 34 _ _ rfl (w.heap.size + 1) 0 34 (ansC 0 0 (.slice none 0 0) (.slice none 0 0)) (ansC en 0 (.slice a m k) (.slice a' m' k')) rfl rfl AA.out (by simp [ansC_len]) size4a O1.out ?_)
 refine bodyPost_ret (v := .agg (ansC en 0 (.slice a m k) (.slice a' m' k')).toArray) ?_ rfl FF.out
 simp [results, Tryz.results42, asAddr, Act.put, hlv]
set_option maxRecDepth 100000 in
theorem dkAsked_clo (d : Nat) (F : Int → Option Ses) (n : Nat) (Z : Nat → Prop) (mb : Nat) (D : DataW Unit) (bl : Int → Nat) (c : Cl) (a1 : Option Addr) (n1 c1 : Nat) (a2 : Option Addr) (n2 c2 : Nat) (w : World) (i : DkI w d F n Z mb D bl) (s : Ses) (hv : In1 c.v) (hF : F c.v = some s) (hk : c.k = 5) : Calls Tryz.prog 42 #[.pointer (some ⟨d, 0, none⟩), clV c (.slice a1 n1 c1) (.slice a2 n2 c2)] w (DkE w d F n Z c 0) := by
 have hz := zAns
 have AS := hide (AsS.new w c (.slice a1 n1 c1) (.slice a2 n2 c2))
 have DB0 := hide i.dk
 have LK0 := hide (fun u (g : w.grownBy u none) => by have := (i.keep g).look hv; unfold ptV at this; rw [hF] at this; exact this)
 have FN := hide (fun (W0 W1 : World) (h : AsS w c (.slice a1 n1 c1) (.slice a2 n2 c2) W0) hm g => dkE_less i hF hk (W1 := W1) h hm g)
 have MP := hide i.mp
 have DM : Hid (d ≠ mb ∧ w.heap.size ≠ mb) := by
  refine ⟨fun e => ?_, fun e => ?_⟩
  ·obtain ⟨es, cl, hbm, _⟩ := i.mp
   have := i.dk
   unfold BlkV at this
   rw [e, hbm] at this
   cases this
  ·have := i.zl _ i.zm
   omega
 have be := build_ans0
 have HK := hide hk
 clear i hF hk
 generalize DkE w d F n Z c 0 = T at *
 unfold clV
 go_enter Tryz.func42, Tryz.ntmps42
 go_upto_region 1 with fail
 change Code.wp _ _ _ _ ((w.alloc (.cells (clC c (.slice a1 n1 c1) (.slice a2 n2 c2)).toArray 37)).alloc (.cells (ansC 0 0 (.slice none 0 0) (.slice none 0 0)).toArray 34))
 generalize (w.alloc (.cells (clC c (.slice a1 n1 c1) (.slice a2 n2 c2)).toArray 37)).alloc (.cells (ansC 0 0 (.slice none 0 0) (.slice none 0 0)).toArray 34) = W0 at *
 have DB := hide (DB0.out.keep AS.out.gr)
 have LK := hide (fun u (g : W0.grownBy u none) => LK0.out u (grown_none AS.out.gr g))
 refine wp_region_held_drew (S := GrownW W0) (by kernel_rfl) (gw_start _) (fun hHeld => ?_)
 refine wpAnyH_take (i := 0) (v := ?vas0) rfl (by kernel_rfl) (by kernel_rfl) (by kernel_rfl) (fun _ _ _ h => h) (Or.inl ⟨by rfl, ?yas0⟩) hHeld ?ras0
 case yas0 => (intro w' hSw; go_simp; (try with_reducible rfl))
 (try simp only [Act.put, sL])
 refine wpAnyH_take (i := 1) (v := ?vas1) rfl (by kernel_rfl) (by kernel_rfl) (by kernel_rfl) (fun _ _ _ h => h) (Or.inl ⟨by rfl, ?yas1⟩) hHeld ?ras1
 case yas1 => (intro w' hSw; go_simp; (try with_reducible rfl))
 (try simp only [Act.put, sL])
 refine wpAnyH_take (i := 2) (v := ?vas2) rfl (by kernel_rfl) (by kernel_rfl) (by kernel_rfl) (fun _ _ _ h => h) (Or.inl ⟨by rfl, ?yas2⟩) hHeld ?ras2
 case yas2 => (intro w' hSw; go_simp; (try with_reducible rfl))
 (try simp only [Act.put, sL])
 refine wpAnyH_take (i := 3) (v := .map (some mb)) rfl (by kernel_rfl) (by kernel_rfl) (by kernel_rfl) (fun _ _ _ h => h) (Or.inl ⟨by rfl, ?yas3⟩) hHeld ?ras3
 case yas3 => (intro w' hSw; have cc := BlkV.cell (DB.out.keep hSw) 0; simp at cc; go_simp; (try with_reducible rfl))
 (try simp only [Act.put, sL])
 refine wpAnyH_take (i := 4) (v := ?vas4) rfl (by kernel_rfl) (by kernel_rfl) (by kernel_rfl) (fun _ _ _ h => h) (Or.inl ⟨by rfl, ?yas4⟩) hHeld ?ras4
 case yas4 => (intro w' hSw; go_simp; (try with_reducible rfl))
 (try simp only [Act.put, sL])
 refine wpAnyH_take (i := 5) (v := .int .i64 c.v) rfl (by kernel_rfl) (by kernel_rfl) (by kernel_rfl) (fun _ _ _ h => h) (Or.inl ⟨by rfl, ?yas5⟩) hHeld ?ras5
 case yas5 => (intro w' hSw; have cc := BlkV.cell ((AS.out.keep hSw).cl) 1; simp [clC] at cc; go_simp; (try with_reducible rfl))
 (try simp only [Act.put, sL])
 refine wpAnyH_take (i := 6) (v := .pointer (some ⟨bl c.v, 0, none⟩)) rfl (by kernel_rfl) (by kernel_rfl) (by kernel_rfl) (fun _ _ _ h => h) (Or.inl ⟨by rfl, ?yas6⟩) hHeld ?ras6
 case yas6 => (intro w' hSw; have cc := LK.out _ hSw; go_simp; (try simp only [cc]); (try with_reducible rfl))
 (try simp only [Act.put, sL])
 refine wpAnyH_take (i := 7) (v := ?vas7) rfl (by kernel_rfl) (by kernel_rfl) (by kernel_rfl) (fun _ _ _ h => h) (Or.inl ⟨by rfl, ?yas7⟩) hHeld ?ras7
 case yas7 => (intro w' hSw; go_simp; (try with_reducible rfl))
 (try simp only [Act.put, sL])
 refine wpAnyH_done (by kernel_rfl) ?_ _
 have AS1 := hide (AS.out.keep (gw_start W0))
 have D1 := hide (DB.out.keep (gw_start W0))
 clear hHeld AS DB LK DB0 LK0
 generalize W0.drew = W1 at *
 have kc0 := BlkV.cell AS1.out.cl 0
 simp [clC] at kc0
 rw [HK.out] at kc0
 generalize bl c.v = bb at *
 go_upto_region 11 with fail
 refine wp_region_held_drew (S := fun u => BlkV u d 70 [.map (some mb)] ∧ BlkV u w.heap.size 37 (clC c (.slice a1 n1 c1) (.slice a2 n2 c2))) (by kernel_rfl) ⟨D1.out.keep (gw_start W1), AS1.out.cl.keep (gw_start W1)⟩ (fun hHeld => ?_)
 refine wpAnyH_take (i := 0) (v := ?vdl0) rfl (by kernel_rfl) (by kernel_rfl) (by kernel_rfl) (fun _ _ _ h => h) (Or.inl ⟨by rfl, ?ydl0⟩) hHeld ?rdl0
 case ydl0 => (intro w' hSw; go_simp; (try with_reducible rfl))
 (try simp only [Act.put, sL])
 refine wpAnyH_take (i := 1) (v := ?vdl1) rfl (by kernel_rfl) (by kernel_rfl) (by kernel_rfl) (fun _ _ _ h => h) (Or.inl ⟨by rfl, ?ydl1⟩) hHeld ?rdl1
 case ydl1 => (intro w' hSw; go_simp; (try with_reducible rfl))
 (try simp only [Act.put, sL])
 refine wpAnyH_take (i := 2) (v := ?vdl2) rfl (by kernel_rfl) (by kernel_rfl) (by kernel_rfl) (fun _ _ _ h => h) (Or.inl ⟨by rfl, ?ydl2⟩) hHeld ?rdl2
 case ydl2 => (intro w' hSw; go_simp; (try with_reducible rfl))
 (try simp only [Act.put, sL])
 refine wpAnyH_take (i := 3) (v := .map (some mb)) rfl (by kernel_rfl) (by kernel_rfl) (by kernel_rfl) (fun _ _ _ h => h) (Or.inl ⟨by rfl, ?ydl3⟩) hHeld ?rdl3
 case ydl3 => (intro w' hSw; have cc := BlkV.cell hSw.1 0; simp at cc; go_simp; (try with_reducible rfl))
 (try simp only [Act.put, sL])
 refine wpAnyH_take (i := 4) (v := ?vdl4) rfl (by kernel_rfl) (by kernel_rfl) (by kernel_rfl) (fun _ _ _ h => h) (Or.inl ⟨by rfl, ?ydl4⟩) hHeld ?rdl4
 case ydl4 => (intro w' hSw; go_simp; (try with_reducible rfl))
 (try simp only [Act.put, sL])
 refine wpAnyH_take (i := 5) (v := .int .i64 c.v) rfl (by kernel_rfl) (by kernel_rfl) (by kernel_rfl) (fun _ _ _ h => h) (Or.inl ⟨by rfl, ?ydl5⟩) hHeld ?rdl5
 case ydl5 => (intro w' hSw; have cc := BlkV.cell hSw.2 1; simp [clC] at cc; go_simp; (try with_reducible rfl))
 (try simp only [Act.put, sL])
 refine wpAnyH_ready (rs := [6]) (by kernel_rfl) (by simp) (AllReadyH.cons rfl (fun K hK => ?_) AllReadyH.nil)
 (try simp only [Act.put, sL])
 refine step_del rfl _ _ rfl mb n D rfl (MP.out.kept (grown_none AS1.out.gr (gw_start W1)) (by simp)) c.v hv rfl ?_
 intro W4 m4 g4
 have FI := FN.out _ W4 (AS1.out.keep (gw_start W1)) m4 g4
 have FF := hide FI.2.2
 have hlv := loadA FI.1
 have AA := hide FI.2.1
 have D4 := hide (And.intro (hHeld.1.keepBut g4 DM.out.1) (hHeld.2.keepBut g4 DM.out.2))
 clear FI FN m4 g4
 refine hK.out _ _ D4.out (fun hHeld => ?_)
 clear hK
 (try simp only [Act.put, sL])
 refine wpAnyH_done (by kernel_rfl) ?_ _
 clear hHeld D4 kc0 AS1 D1
 have O1 := hide (ansC_one 0 0 none 0 0 none 0 0)
 go_wp2_with (first | refine wpList_store_v rfl 34 _ _ rfl (w.heap.size + 1) 0 34 (ansC 0 0 (.slice none 0 0) (.slice none 0 0)) (ansC 0 0 (.slice none 0 0) (.slice none 0 0)) rfl rfl AA.out (by simp [ansC_len]) size4a O1.out ?_)
 refine bodyPost_ret (v := .agg (ansC 0 0 (.slice none 0 0) (.slice none 0 0)).toArray) ?_ rfl FF.out
 simp [results, Tryz.results42, asAddr, Act.put, hlv]
theorem dkAsked_any (W : World) (pc : CEn 20 W) (pd : CDe 22 W) (pe : CErs 23 W) (d : Nat) (F : Int → Option Ses) (n : Nat) (Z : Nat → Prop) (c : Cl) (a1 : Option Addr) (n1 c1 : Nat) (a2 : Option Addr) (n2 c2 : Nat) (w : World) (h : DkW w d F n Z) (gw : W.grownBy w none) (hc : ClOk w c (.slice a1 n1 c1) (.slice a2 n2 c2)) (hk : 2 ≤ c.k ∧ c.k ≤ 5) : Calls Tryz.prog 42 #[.pointer (some ⟨d, 0, none⟩), clV c (.slice a1 n1 c1) (.slice a2 n2 c2)] w (DkE w d F n Z c 0) := by
 obtain ⟨mb, D, bl, i⟩ := h
 rcases hF : F c.v with _ | s
 ·exact dkAsked_none d F n Z mb D bl c a1 n1 c1 a2 n2 c2 w i hc.hv hF hk
 ·obtain e | e | e | e : c.k = 2 ∨ c.k = 3 ∨ c.k = 4 ∨ c.k = 5 := by omega
  ·exact dkAsked_enc W pc d F n Z mb D bl c a1 n1 c1 a2 n2 c2 w i s gw hc hF e
  ·exact dkAsked_dec W pd d F n Z mb D bl c a1 n1 c1 a2 n2 c2 w i s gw hc hF e
  ·exact dkAsked_ers W pe d F n Z mb D bl c a1 n1 c1 a2 n2 c2 w i s gw hc hF e
  ·exact dkAsked_clo d F n Z mb D bl c a1 n1 c1 a2 n2 c2 w i s hc.hv hF e
end Go.Proofs.YtdejpongekicdaaGreatDoor

/- DkO -/
namespace Go.Proofs.YtdejpongekicdaaGreatDoor
open Go.RowKit
set_option linter.unusedVariables false
set_option linter.unusedSimpArgs false
set_option maxHeartbeats 4000000
theorem dkE_keep {w W1 W2 : World} {d : Nat} {F : Int → Option Ses} {n : Nat} {Z : Nat → Prop} {c : Cl} {v : Int} {x : Ending} (h : DkE w d F n Z c v x W1) (g : W1.grownBy W2 none) : DkE w d F n Z c v x W2 := by
 obtain ⟨vb, vl, e, hB, hL, Z', r, i, hZ, gr, hr⟩ := h
 exact ⟨vb, vl, e, hB.keep g, hL.keep g, Z', r, i.keep g, hZ, grown_trans gr g r (fun i e _ => e) (fun i e => by cases e), hr⟩
theorem dkE_store {w W0 W1 : World} {d : Nat} {F : Int → Option Ses} {n : Nat} {Z : Nat → Prop} {c : Cl} {A : Nat} (g0 : w.grownBy W0 none) (hA : A < W0.heap.size) (hw : w.heap.size ≤ A) (hZ : ∀ b, Z b → b < w.heap.size) {v : Int} {a : Option Addr} {m k : Nat} {a' : Option Addr} {m' k' : Nat} {en : Int}
  (h : DkE W0 d F n Z c v (.returned (ansV en v (.slice a m k) (.slice a' m' k'))) W1) (hA1 : BlkV W1 A 34 (ansC 0 0 (.slice none 0 0) (.slice none 0 0))) (v' : Int) :
  BlkV (putV W1 A 0 (ansC en v' (.slice a m k) (.slice a' m' k'))) A 34 (ansC en v' (.slice a m k) (.slice a' m' k')) ∧ DkE w d F n Z c v' (.returned (.agg (ansC en v' (.slice a m k) (.slice a' m' k')).toArray)) (putV W1 A 0 (ansC en v' (.slice a m k) (.slice a' m' k'))) := by
 obtain ⟨vb, vl, e, hB, hL, Z', r, i, hZ', gr, hr⟩ := h
 unfold ansV at e
 simp only [Ending.returned.injEq, Value.agg.injEq, Array.mk.injEq, List.cons.injEq, Value.int.injEq, true_and, and_true] at e
 obtain ⟨e1, e2, e3⟩ := e
 subst e1
 rw [← e2] at hB
 rw [← e3] at hL
 have P := ansP (en' := dkC (F c.v) n c) (v' := v') (vb' := .slice a m k) (vl' := .slice a' m' k') hA1
 refine ⟨P.1, .slice a m k, .slice a' m' k', rfl, (hB.keepLt P.2 (by omega)).base g0.size, (hL.keepLt P.2 (by omega)).base g0.size, Z', r, i.keepR P.2 (fun b e => ?_), fun b hb => ?_, ?_, hr⟩
 ·cases e
  intro q
  rcases hZ' A q with z | z
  ·have := hZ A z; omega
  ·omega
 ·rcases hZ' b hb with z | z
  ·exact .inl z
  ·exact .inr (Nat.le_trans g0.size z)
 ·exact grown_trans (grown_trans g0 gr r (fun i e => by cases e) (fun i e _ => e)) P.2 r (fun i e _ => e) (fun i e hi => by cases e; omega)
theorem dkE_blk {w W1 : World} {d : Nat} {F : Int → Option Ses} {n : Nat} {Z : Nat → Prop} {c : Cl} {v : Int} {x : Ending} (h : DkE w d F n Z c v x W1) {A : Nat} {T : TypeId} {cs : List Value} (hA : BlkV w A T cs) (hZ : ¬ Z A) : BlkV W1 A T cs := by
 obtain ⟨vb, vl, e, hB, hL, Z', r, i, hZ', gr, hr⟩ := h
 exact (gr.block _ (lt_of_some hA) (fun e => hZ (hr A e.symm))).trans hA
theorem dkE_form {w W1 : World} {d : Nat} {F : Int → Option Ses} {n : Nat} {Z : Nat → Prop} {c : Cl} {v : Int} {x : Ending} (h : DkE w d F n Z c v x W1) : ∃ en a m k a' m' k', x = .returned (ansV en v (.slice a m k) (.slice a' m' k')) := by
 obtain ⟨vb, vl, e, hB, hL, _⟩ := h
 obtain ⟨a, m, k, rfl⟩ := shp_sl hB.shp
 obtain ⟨a', m', k', rfl⟩ := shp_sl hL.shp
 exact ⟨_, a, m, k, a', m', k', e⟩
theorem clOk_keep {w w' : World} {c : Cl} {vs vb : Value} (h : ClOk w c vs vb) (g : w.grownBy w' none) : ClOk w' c vs vb := ⟨h.hk, h.hv, Ints_keep h.il g, h.sl, h.ll, h.nl, Byts_keep h.ib g, h.sb, h.bb, h.nb⟩
theorem dkE_open {w W0 W1 : World} {d : Nat} {F : Int → Option Ses} {n : Nat} {Z : Nat → Prop} {c : Cl} (hk : c.k = 1) (g0 : w.grownBy W0 none) {A : Nat} (hA : A < W0.heap.size) (hw : w.heap.size ≤ A) (hZ : ∀ b, Z b → b < w.heap.size) {x : Ending} (h : OpE W0 d F n Z c.v x W1) (hA1 : BlkV W1 A 34 (ansC 0 0 (.slice none 0 0) (.slice none 0 0))) :
  BlkV (putV W1 A 0 (ansC (opnC (F c.v) n c.v) 0 (.slice none 0 0) (.slice none 0 0))) A 34 (ansC (opnC (F c.v) n c.v) 0 (.slice none 0 0) (.slice none 0 0)) ∧ DkE w d F n Z c 0 (.returned (.agg (ansC (opnC (F c.v) n c.v) 0 (.slice none 0 0) (.slice none 0 0)).toArray)) (putV W1 A 0 (ansC (opnC (F c.v) n c.v) 0 (.slice none 0 0) (.slice none 0 0))) := by
 obtain ⟨_, Z', r, i, hZ', gr, hr⟩ := h
 have h1 : DkE W0 d F n Z c 0 (.returned (ansV (opnC (F c.v) n c.v) 0 (.slice none 0 0) (.slice none 0 0))) W1 := by
  refine ⟨(.slice none 0 0), (.slice none 0 0), by unfold dkC; rw [if_pos hk], ?_, ?_, Z', r, ?_, hZ', gr, hr⟩
  ·unfold dkB
   rw [if_neg (by omega)]
   exact OwnB_nil _ _
  ·unfold dkL
   rw [if_neg (by omega)]
   exact Own_nil _ _
  ·unfold dkF dkN dkO
   rw [if_pos hk, if_pos hk]
   by_cases e : opnC (F c.v) n c.v = 0
   ·rw [if_pos e, if_pos e] at i
    rw [if_pos e, if_pos e]
    exact i
   ·rw [if_neg e, if_neg e] at i
    rw [if_neg e, if_neg e, putS_self]
    exact i
 exact dkE_store g0 hA hw hZ h1 hA1 0
theorem opE_blk {w W1 : World} {d : Nat} {F : Int → Option Ses} {n : Nat} {Z : Nat → Prop} {v : Int} {x : Ending} (h : OpE w d F n Z v x W1) {A : Nat} {T : TypeId} {cs : List Value} (hA : BlkV w A T cs) (hZ : ¬ Z A) : BlkV W1 A T cs := by
 obtain ⟨e, Z', r, i, hZ', gr, hr⟩ := h
 exact (gr.block _ (lt_of_some hA) (fun e => hZ (hr A e.symm))).trans hA
theorem size5c : (Tryz.prog.info? 37).map (·.size) = some 5 := by kernel_rfl
set_option maxRecDepth 100000 in
theorem dkAnswered_open (W : World) (pc : CEn 20 W) (pd : CDe 22 W) (pe : CErs 23 W) (pb : CBg 17 W) (pf : CFr 18 W) (d : Nat) (F : Int → Option Ses) (n : Nat) (Z : Nat → Prop) (c : Cl) (a1 : Option Addr) (n1 c1 : Nat) (a2 : Option Addr) (n2 c2 : Nat) (w : World) (h : DkW w d F n Z) (gw : W.grownBy w none) (hc : ClOk w c (.slice a1 n1 c1) (.slice a2 n2 c2)) (hk : c.k = 1) : Calls Tryz.prog 25 #[.pointer (some ⟨d, 0, none⟩), clV c (.slice a1 n1 c1) (.slice a2 n2 c2)] w (DkE w d F n Z c 0) := by
 have hz := zAns
 have AS := hide (AsS.new w c (.slice a1 n1 c1) (.slice a2 n2 c2))
 have FN := hide (fun (W0 W1 : World) (g0 : w.grownBy W0 none) (A : Nat) (hA : A < W0.heap.size) (hw : w.heap.size ≤ A) (x : Ending) (q : OpE W0 d F n Z c.v x W1) hA1 => dkE_open (A := A) hk g0 hA hw h.zl q hA1)
 have CA := hide (fun (W0 : World) (g : w.grownBy W0 none) => dkOpen_any W pb pf d F n Z c.v hc.hv W0 (grown_none gw g) (h.keep g))
 have NZ := hide (show ¬ Z (w.heap.size + 1) from fun q => by have := h.zl _ q; omega)
 have EX := hide (fun (W0 W1 : World) (x : Ending) (q : OpE W0 d F n Z c.v x W1) => q.1)
 have BK := hide (fun (W0 W1 : World) (x : Ending) (q : OpE W0 d F n Z c.v x W1) hA => opE_blk (A := w.heap.size + 1) (T := 34) (cs := ansC 0 0 (.slice none 0 0) (.slice none 0 0)) q hA NZ.out)
 have HK := hide hk
 have be := build_ansE (opnC (F c.v) n c.v)
 clear h hc hk gw NZ
 generalize DkE w d F n Z c 0 = T at *
 unfold clV
 go_enter Tryz.func25, Tryz.ntmps25
 go_upto_region 1 with fail
 change Code.wp _ _ _ _ ((w.alloc (.cells (clC c (.slice a1 n1 c1) (.slice a2 n2 c2)).toArray 37)).alloc (.cells (ansC 0 0 (.slice none 0 0) (.slice none 0 0)).toArray 34))
 generalize (w.alloc (.cells (clC c (.slice a1 n1 c1) (.slice a2 n2 c2)).toArray 37)).alloc (.cells (ansC 0 0 (.slice none 0 0) (.slice none 0 0)).toArray 34) = W0 at *
 have C1 := hide (CA.out W0 AS.out.gr)
 have FN1 := hide (fun (W1 : World) (x : Ending) q => FN.out W0 W1 AS.out.gr (w.heap.size + 1) AS.out.size (by omega) x q (BK.out W0 W1 x q AS.out.an))
 have BK1 := hide (fun (W1 : World) (x : Ending) q => BK.out W0 W1 x q AS.out.an)
 have EX1 := hide (fun (W1 : World) (x : Ending) q => EX.out W0 W1 x q)
 have kc0 := BlkV.cell AS.out.cl 0
 have kc1 := BlkV.cell AS.out.cl 1
 simp [clC] at kc0 kc1
 rw [HK.out] at kc0
 clear CA FN BK EX AS
 generalize OpE W0 d F n Z c.v = OT at *
 generalize opnC (F c.v) n c.v = en at *
 go_wp2_with fail
 refine C1.out.mono ?_
 intro x W1 q
 obtain rfl := EX1.out W1 x q
 have FI := FN1.out W1 _ q
 have FF := hide FI.2
 have hlv := loadA FI.1
 have AA := hide (BK1.out W1 _ q)
 have O1 := hide (ansC_one en 0 none 0 0 none 0 0)
 clear FI FN1 BK1 EX1 C1 kc0 kc1 q
 go_wp2_with (first | refine wpList_store_v rfl 34 _ _ rfl (w.heap.size + 1) 0 34 (ansC 0 0 (.slice none 0 0) (.slice none 0 0)) (ansC en 0 (.slice none 0 0) (.slice none 0 0)) rfl rfl AA.out (by simp [ansC_len]) size4a O1.out ?_)
 refine bodyPost_ret (v := .agg (ansC en 0 (.slice none 0 0) (.slice none 0 0)).toArray) ?_ rfl FF.out
 simp [results, Tryz.results25, asAddr, Act.put, hlv]
set_option maxRecDepth 100000 in
theorem dkAnswered_ask (W : World) (pc : CEn 20 W) (pd : CDe 22 W) (pe : CErs 23 W) (pb : CBg 17 W) (pf : CFr 18 W) (d : Nat) (F : Int → Option Ses) (n : Nat) (Z : Nat → Prop) (c : Cl) (a1 : Option Addr) (n1 c1 : Nat) (a2 : Option Addr) (n2 c2 : Nat) (w : World) (h : DkW w d F n Z) (gw : W.grownBy w none) (hc : ClOk w c (.slice a1 n1 c1) (.slice a2 n2 c2)) (hk : 2 ≤ c.k ∧ c.k ≤ 5) : Calls Tryz.prog 25 #[.pointer (some ⟨d, 0, none⟩), clV c (.slice a1 n1 c1) (.slice a2 n2 c2)] w (DkE w d F n Z c 0) := by
 have hz := zAns
 have AS := hide (AsS.new w c (.slice a1 n1 c1) (.slice a2 n2 c2))
 have FN := hide (fun (W0 W1 : World) (g0 : w.grownBy W0 none) (A : Nat) (hA : A < W0.heap.size) (hw : w.heap.size ≤ A) en a m k a' m' k' q hA1 => dkE_store (c := c) (F := F) (n := n) (d := d) (v := 0) (en := en) (a := a) (m := m) (k := k) (a' := a') (m' := m') (k' := k') (W1 := W1) (A := A) g0 hA hw h.zl q hA1 0)
 have CA := hide (fun (W0 : World) (g : w.grownBy W0 none) => dkAsked_any W pc pd pe d F n Z c a1 n1 c1 a2 n2 c2 W0 (h.keep g) (grown_none gw g) (clOk_keep hc g) hk)
 have NZ := hide (show ¬ Z (w.heap.size + 1) from fun q => by have := h.zl _ q; omega)
 have BK := hide (fun (W0 W1 : World) (x : Ending) (q : DkE W0 d F n Z c 0 x W1) hA => dkE_blk (A := w.heap.size + 1) (T := 34) (cs := ansC 0 0 (.slice none 0 0) (.slice none 0 0)) q hA NZ.out)
 have EX := hide (fun (W0 W1 : World) (x : Ending) (q : DkE W0 d F n Z c 0 x W1) => dkE_form q)
 obtain e | e | e | e : c.k = 2 ∨ c.k = 3 ∨ c.k = 4 ∨ c.k = 5 := by omega
 ·have HK := hide e
  clear h hc hk gw NZ e
  generalize DkE w d F n Z c 0 = T at *
  unfold clV
  go_enter Tryz.func25, Tryz.ntmps25
  go_upto_region 1 with fail
  change Code.wp _ _ _ _ ((w.alloc (.cells (clC c (.slice a1 n1 c1) (.slice a2 n2 c2)).toArray 37)).alloc (.cells (ansC 0 0 (.slice none 0 0) (.slice none 0 0)).toArray 34))
  generalize (w.alloc (.cells (clC c (.slice a1 n1 c1) (.slice a2 n2 c2)).toArray 37)).alloc (.cells (ansC 0 0 (.slice none 0 0) (.slice none 0 0)).toArray 34) = W0 at *
  have C1 := hide (CA.out W0 AS.out.gr)
  have FN1 := hide (fun (W1 : World) en a m k a' m' k' q => FN.out W0 W1 AS.out.gr (w.heap.size + 1) AS.out.size (by omega) en a m k a' m' k' q (BK.out W0 W1 _ q AS.out.an))
  have BK1 := hide (fun (W1 : World) (x : Ending) q => BK.out W0 W1 x q AS.out.an)
  have EX1 := hide (fun (W1 : World) (x : Ending) q => EX.out W0 W1 x q)
  have kc0 := BlkV.cell AS.out.cl 0
  simp [clC] at kc0
  rw [HK.out] at kc0
  clear CA FN BK EX
  generalize DkE W0 d F n Z c 0 = OT at *
  unfold clV at C1
  go_wp2_with (first | refine wpList_load_v rfl 37 _ rfl w.heap.size 0 5 rfl 37 (clC c (.slice a1 n1 c1) (.slice a2 n2 c2)) AS.out.cl _ Tryz.underlying37 rfl size5c (by simp [clC]) _ rfl ?_)
  refine C1.out.mono ?_
  intro x W1 q
  obtain ⟨en, a, m, k, a', m', k', rfl⟩ := EX1.out W1 x q
  have FI := FN1.out W1 en a m k a' m' k' q
  have FF := hide FI.2
  have hlv := loadA FI.1
  have AA := hide (BK1.out W1 _ q)
  have O1 := hide (ansC_one en 0 a m k a' m' k')
  clear FI FN1 BK1 EX1 C1 kc0 q
  unfold ansV
  go_wp2_with (first | refine wpList_store_v rfl 34 _ _ rfl (w.heap.size + 1) 0 34 (ansC 0 0 (.slice none 0 0) (.slice none 0 0)) (ansC en 0 (.slice a m k) (.slice a' m' k')) rfl rfl AA.out (by simp [ansC_len]) size4a O1.out ?_)
  refine bodyPost_ret (v := .agg (ansC en 0 (.slice a m k) (.slice a' m' k')).toArray) ?_ rfl FF.out
  simp [results, Tryz.results25, asAddr, Act.put, hlv]
 ·have HK := hide e
  clear h hc hk gw NZ e
  generalize DkE w d F n Z c 0 = T at *
  unfold clV
  go_enter Tryz.func25, Tryz.ntmps25
  go_upto_region 1 with fail
  change Code.wp _ _ _ _ ((w.alloc (.cells (clC c (.slice a1 n1 c1) (.slice a2 n2 c2)).toArray 37)).alloc (.cells (ansC 0 0 (.slice none 0 0) (.slice none 0 0)).toArray 34))
  generalize (w.alloc (.cells (clC c (.slice a1 n1 c1) (.slice a2 n2 c2)).toArray 37)).alloc (.cells (ansC 0 0 (.slice none 0 0) (.slice none 0 0)).toArray 34) = W0 at *
  have C1 := hide (CA.out W0 AS.out.gr)
  have FN1 := hide (fun (W1 : World) en a m k a' m' k' q => FN.out W0 W1 AS.out.gr (w.heap.size + 1) AS.out.size (by omega) en a m k a' m' k' q (BK.out W0 W1 _ q AS.out.an))
  have BK1 := hide (fun (W1 : World) (x : Ending) q => BK.out W0 W1 x q AS.out.an)
  have EX1 := hide (fun (W1 : World) (x : Ending) q => EX.out W0 W1 x q)
  have kc0 := BlkV.cell AS.out.cl 0
  simp [clC] at kc0
  rw [HK.out] at kc0
  clear CA FN BK EX
  generalize DkE W0 d F n Z c 0 = OT at *
  unfold clV at C1
  go_wp2_with (first | refine wpList_load_v rfl 37 _ rfl w.heap.size 0 5 rfl 37 (clC c (.slice a1 n1 c1) (.slice a2 n2 c2)) AS.out.cl _ Tryz.underlying37 rfl size5c (by simp [clC]) _ rfl ?_)
  refine C1.out.mono ?_
  intro x W1 q
  obtain ⟨en, a, m, k, a', m', k', rfl⟩ := EX1.out W1 x q
  have FI := FN1.out W1 en a m k a' m' k' q
  have FF := hide FI.2
  have hlv := loadA FI.1
  have AA := hide (BK1.out W1 _ q)
  have O1 := hide (ansC_one en 0 a m k a' m' k')
  clear FI FN1 BK1 EX1 C1 kc0 q
  unfold ansV
  go_wp2_with (first | refine wpList_store_v rfl 34 _ _ rfl (w.heap.size + 1) 0 34 (ansC 0 0 (.slice none 0 0) (.slice none 0 0)) (ansC en 0 (.slice a m k) (.slice a' m' k')) rfl rfl AA.out (by simp [ansC_len]) size4a O1.out ?_)
  refine bodyPost_ret (v := .agg (ansC en 0 (.slice a m k) (.slice a' m' k')).toArray) ?_ rfl FF.out
  simp [results, Tryz.results25, asAddr, Act.put, hlv]
 ·have HK := hide e
  clear h hc hk gw NZ e
  generalize DkE w d F n Z c 0 = T at *
  unfold clV
  go_enter Tryz.func25, Tryz.ntmps25
  go_upto_region 1 with fail
  change Code.wp _ _ _ _ ((w.alloc (.cells (clC c (.slice a1 n1 c1) (.slice a2 n2 c2)).toArray 37)).alloc (.cells (ansC 0 0 (.slice none 0 0) (.slice none 0 0)).toArray 34))
  generalize (w.alloc (.cells (clC c (.slice a1 n1 c1) (.slice a2 n2 c2)).toArray 37)).alloc (.cells (ansC 0 0 (.slice none 0 0) (.slice none 0 0)).toArray 34) = W0 at *
  have C1 := hide (CA.out W0 AS.out.gr)
  have FN1 := hide (fun (W1 : World) en a m k a' m' k' q => FN.out W0 W1 AS.out.gr (w.heap.size + 1) AS.out.size (by omega) en a m k a' m' k' q (BK.out W0 W1 _ q AS.out.an))
  have BK1 := hide (fun (W1 : World) (x : Ending) q => BK.out W0 W1 x q AS.out.an)
  have EX1 := hide (fun (W1 : World) (x : Ending) q => EX.out W0 W1 x q)
  have kc0 := BlkV.cell AS.out.cl 0
  simp [clC] at kc0
  rw [HK.out] at kc0
  clear CA FN BK EX
  generalize DkE W0 d F n Z c 0 = OT at *
  unfold clV at C1
  go_wp2_with (first | refine wpList_load_v rfl 37 _ rfl w.heap.size 0 5 rfl 37 (clC c (.slice a1 n1 c1) (.slice a2 n2 c2)) AS.out.cl _ Tryz.underlying37 rfl size5c (by simp [clC]) _ rfl ?_)
  refine C1.out.mono ?_
  intro x W1 q
  obtain ⟨en, a, m, k, a', m', k', rfl⟩ := EX1.out W1 x q
  have FI := FN1.out W1 en a m k a' m' k' q
  have FF := hide FI.2
  have hlv := loadA FI.1
  have AA := hide (BK1.out W1 _ q)
  have O1 := hide (ansC_one en 0 a m k a' m' k')
  clear FI FN1 BK1 EX1 C1 kc0 q
  unfold ansV
  go_wp2_with (first | refine wpList_store_v rfl 34 _ _ rfl (w.heap.size + 1) 0 34 (ansC 0 0 (.slice none 0 0) (.slice none 0 0)) (ansC en 0 (.slice a m k) (.slice a' m' k')) rfl rfl AA.out (by simp [ansC_len]) size4a O1.out ?_)
  refine bodyPost_ret (v := .agg (ansC en 0 (.slice a m k) (.slice a' m' k')).toArray) ?_ rfl FF.out
  simp [results, Tryz.results25, asAddr, Act.put, hlv]
 ·have HK := hide e
  clear h hc hk gw NZ e
  generalize DkE w d F n Z c 0 = T at *
  unfold clV
  go_enter Tryz.func25, Tryz.ntmps25
  go_upto_region 1 with fail
  change Code.wp _ _ _ _ ((w.alloc (.cells (clC c (.slice a1 n1 c1) (.slice a2 n2 c2)).toArray 37)).alloc (.cells (ansC 0 0 (.slice none 0 0) (.slice none 0 0)).toArray 34))
  generalize (w.alloc (.cells (clC c (.slice a1 n1 c1) (.slice a2 n2 c2)).toArray 37)).alloc (.cells (ansC 0 0 (.slice none 0 0) (.slice none 0 0)).toArray 34) = W0 at *
  have C1 := hide (CA.out W0 AS.out.gr)
  have FN1 := hide (fun (W1 : World) en a m k a' m' k' q => FN.out W0 W1 AS.out.gr (w.heap.size + 1) AS.out.size (by omega) en a m k a' m' k' q (BK.out W0 W1 _ q AS.out.an))
  have BK1 := hide (fun (W1 : World) (x : Ending) q => BK.out W0 W1 x q AS.out.an)
  have EX1 := hide (fun (W1 : World) (x : Ending) q => EX.out W0 W1 x q)
  have kc0 := BlkV.cell AS.out.cl 0
  simp [clC] at kc0
  rw [HK.out] at kc0
  clear CA FN BK EX
  generalize DkE W0 d F n Z c 0 = OT at *
  unfold clV at C1
  go_wp2_with (first | refine wpList_load_v rfl 37 _ rfl w.heap.size 0 5 rfl 37 (clC c (.slice a1 n1 c1) (.slice a2 n2 c2)) AS.out.cl _ Tryz.underlying37 rfl size5c (by simp [clC]) _ rfl ?_)
  refine C1.out.mono ?_
  intro x W1 q
  obtain ⟨en, a, m, k, a', m', k', rfl⟩ := EX1.out W1 x q
  have FI := FN1.out W1 en a m k a' m' k' q
  have FF := hide FI.2
  have hlv := loadA FI.1
  have AA := hide (BK1.out W1 _ q)
  have O1 := hide (ansC_one en 0 a m k a' m' k')
  clear FI FN1 BK1 EX1 C1 kc0 q
  unfold ansV
  go_wp2_with (first | refine wpList_store_v rfl 34 _ _ rfl (w.heap.size + 1) 0 34 (ansC 0 0 (.slice none 0 0) (.slice none 0 0)) (ansC en 0 (.slice a m k) (.slice a' m' k')) rfl rfl AA.out (by simp [ansC_len]) size4a O1.out ?_)
  refine bodyPost_ret (v := .agg (ansC en 0 (.slice a m k) (.slice a' m' k')).toArray) ?_ rfl FF.out
  simp [results, Tryz.results25, asAddr, Act.put, hlv]
set_option maxRecDepth 100000 in
theorem dkAnswered_else (d : Nat) (F : Int → Option Ses) (n : Nat) (Z : Nat → Prop) (c : Cl) (a1 : Option Addr) (n1 c1 : Nat) (a2 : Option Addr) (n2 c2 : Nat) (w : World) (h : DkW w d F n Z) (hc : ClOk w c (.slice a1 n1 c1) (.slice a2 n2 c2)) (hk : c.k < 1 ∨ 5 < c.k) : Calls Tryz.prog 25 #[.pointer (some ⟨d, 0, none⟩), clV c (.slice a1 n1 c1) (.slice a2 n2 c2)] w (DkE w d F n Z c 0) := by
 have hz := zAns
 have AS := hide (AsS.new w c (.slice a1 n1 c1) (.slice a2 n2 c2))
 have FN := hide (fun (W0 : World) (q : AsS w c (.slice a1 n1 c1) (.slice a2 n2 c2) W0) => dkE_same (c := c) (en := 4) h (by unfold dkC; rw [if_neg (by omega), if_neg (by omega)]) (by unfold dkB; rw [if_neg (by omega)]) (by unfold dkL; rw [if_neg (by omega)]) (by unfold dkF dkO; rw [if_neg (by omega), if_neg (by omega)]; exact putS_self F c.v) (by unfold dkN; rw [if_neg (by omega), if_neg (by omega)]) q.an q.gr (by omega))
 have be := build_ansE 4
 have b1 : (c.k == 1) = false := beq_eq_false_iff_ne.2 (by omega)
 have b2 : (c.k == 2) = false := beq_eq_false_iff_ne.2 (by omega)
 have b3 : (c.k == 3) = false := beq_eq_false_iff_ne.2 (by omega)
 have b4 : (c.k == 4) = false := beq_eq_false_iff_ne.2 (by omega)
 have b5 : (c.k == 5) = false := beq_eq_false_iff_ne.2 (by omega)
 clear h hc hk
 generalize DkE w d F n Z c 0 = T at *
 unfold clV
 go_enter Tryz.func25, Tryz.ntmps25
 go_upto_region 1 with fail
 change Code.wp _ _ _ _ ((w.alloc (.cells (clC c (.slice a1 n1 c1) (.slice a2 n2 c2)).toArray 37)).alloc (.cells (ansC 0 0 (.slice none 0 0) (.slice none 0 0)).toArray 34))
 generalize (w.alloc (.cells (clC c (.slice a1 n1 c1) (.slice a2 n2 c2)).toArray 37)).alloc (.cells (ansC 0 0 (.slice none 0 0) (.slice none 0 0)).toArray 34) = W0 at *
 have FI := FN.out W0 AS.out
 have FF := hide FI.2
 have hlv := loadA FI.1
 have AA := hide AS.out.an
 have O1 := hide (ansC_one 4 0 none 0 0 none 0 0)
 have kc0 := BlkV.cell AS.out.cl 0
 simp [clC] at kc0
 clear FI FN AS
 go_wp2_with (first | refine wpList_store_v rfl 34 _ _ rfl (w.heap.size + 1) 0 34 (ansC 0 0 (.slice none 0 0) (.slice none 0 0)) (ansC 4 0 (.slice none 0 0) (.slice none 0 0)) rfl rfl AA.out (by simp [ansC_len]) size4a O1.out ?_)
 refine bodyPost_ret (v := .agg (ansC 4 0 (.slice none 0 0) (.slice none 0 0)).toArray) ?_ rfl FF.out
 simp [results, Tryz.results25, asAddr, Act.put, hlv]
theorem dkAnswered_any (W : World) (pc : CEn 20 W) (pd : CDe 22 W) (pe : CErs 23 W) (pb : CBg 17 W) (pf : CFr 18 W) (d : Nat) (F : Int → Option Ses) (n : Nat) (Z : Nat → Prop) (c : Cl) (a1 : Option Addr) (n1 c1 : Nat) (a2 : Option Addr) (n2 c2 : Nat) (w : World) (h : DkW w d F n Z) (gw : W.grownBy w none) (hc : ClOk w c (.slice a1 n1 c1) (.slice a2 n2 c2)) : Calls Tryz.prog 25 #[.pointer (some ⟨d, 0, none⟩), clV c (.slice a1 n1 c1) (.slice a2 n2 c2)] w (DkE w d F n Z c 0) := by
 by_cases e : c.k = 1
 ·exact dkAnswered_open W pc pd pe pb pf d F n Z c a1 n1 c1 a2 n2 c2 w h gw hc e
 ·by_cases e2 : 2 ≤ c.k ∧ c.k ≤ 5
  ·exact dkAnswered_ask W pc pd pe pb pf d F n Z c a1 n1 c1 a2 n2 c2 w h gw hc e2
  ·exact dkAnswered_else d F n Z c a1 n1 c1 a2 n2 c2 w h hc (by omega)
set_option maxRecDepth 100000 in
theorem dkDo_gen (p : Option Addr) (c : Cl) (a1 : Option Addr) (n1 c1 : Nat) (a2 : Option Addr) (n2 c2 : Nat) (w : World) (Q : World → Ending → World → Prop) (T : Ending → World → Prop) (CA : ∀ W0, w.grownBy W0 none → Calls Tryz.prog 25 #[.pointer p, clV c (.slice a1 n1 c1) (.slice a2 n2 c2)] W0 (Q W0))
  (EX : ∀ W0 x W1, w.grownBy W0 none → Q W0 x W1 → ∃ en a m k a' m' k', x = .returned (ansV en 0 (.slice a m k) (.slice a' m' k')))
  (BK : ∀ W0 x W1 T cs A, w.grownBy W0 none → Q W0 x W1 → w.heap.size ≤ A → BlkV W0 A T cs → BlkV W1 A T cs)
  (FN : ∀ W0 W1 W2 en a m k a' m' k', w.grownBy W0 none → w.heap.size + 1 < W0.heap.size → Q W0 (.returned (ansV en 0 (.slice a m k) (.slice a' m' k'))) W1 → W1.grownBy W2 none → BlkV W2 (w.heap.size + 1) 34 (ansC 0 0 (.slice none 0 0) (.slice none 0 0)) → T (.returned (.agg (ansC en c.v (.slice a m k) (.slice a' m' k')).toArray)) (putV W2 (w.heap.size + 1) 0 (ansC en c.v (.slice a m k) (.slice a' m' k')))) :
  Calls Tryz.prog 9 #[.pointer p, clV c (.slice a1 n1 c1) (.slice a2 n2 c2)] w T := by
 have hz := zAns
 have AS := hide (AsS.new w c (.slice a1 n1 c1) (.slice a2 n2 c2))
 unfold clV
 go_enter Tryz.func9, Tryz.ntmps9
 go_upto_region 1 with fail
 change Code.wp _ _ _ _ ((w.alloc (.cells (clC c (.slice a1 n1 c1) (.slice a2 n2 c2)).toArray 37)).alloc (.cells (ansC 0 0 (.slice none 0 0) (.slice none 0 0)).toArray 34))
 generalize (w.alloc (.cells (clC c (.slice a1 n1 c1) (.slice a2 n2 c2)).toArray 37)).alloc (.cells (ansC 0 0 (.slice none 0 0) (.slice none 0 0)).toArray 34) = W0 at *
 have C1 := hide (CA W0 AS.out.gr)
 have EX1 := hide (fun x W1 q => EX W0 x W1 AS.out.gr q)
 have BC1 := hide (fun x W1 q => BK W0 x W1 _ _ _ AS.out.gr q (Nat.le_refl _) AS.out.cl)
 have BA1 := hide (fun x W1 q => BK W0 x W1 _ _ _ AS.out.gr q (by omega) AS.out.an)
 have FN1 := hide (fun W1 W2 en a m k a' m' k' => FN W0 W1 W2 en a m k a' m' k' AS.out.gr AS.out.size)
 have LS := hide AS.out.size
 clear CA EX BK FN
 generalize Q W0 = QT at *
 unfold clV at C1
 go_wp2_with (first | refine wpList_load_v rfl 37 _ rfl w.heap.size 0 5 rfl 37 (clC c (.slice a1 n1 c1) (.slice a2 n2 c2)) AS.out.cl _ Tryz.underlying37 rfl size5c (by simp [clC]) _ rfl ?_)
 refine C1.out.mono ?_
 intro x W1 q
 obtain ⟨en, a, m, k, a', m', k', rfl⟩ := EX1.out x W1 q
 have CB := hide (BC1.out _ W1 q)
 have AB := hide (BA1.out _ W1 q)
 have N0 := hide (ans_new W1 0 0 (.slice none 0 0) (.slice none 0 0))
 have P := ansP (en' := en) (v' := 0) (vb' := .slice a m k) (vl' := .slice a' m' k') N0.out
 have N1 := hide P.1
 have G1 := hide (grown_own (grown_alloc W1 (.cells (ansC 0 0 (.slice none 0 0) (.slice none 0 0)).toArray 34) none) P.2 (Nat.le_refl _))
 have O0 := hide (ansC_one en 0 a m k a' m' k')
 have O1 := hide (ansC_one en c.v a m k a' m' k')
 have FN2 := hide (fun W2 g A => FN1.out W1 W2 en a m k a' m' k' q g A)
 have LT := hide AB.out.lt
 clear C1 EX1 BC1 BA1 FN1 q P AS
 unfold ansV
 go_upto_region 2 with (first | refine wpList_store_v rfl 34 _ _ rfl W1.heap.size 0 34 (ansC 0 0 (.slice none 0 0) (.slice none 0 0)) (ansC en 0 (.slice a m k) (.slice a' m' k')) rfl rfl N0.out (by simp [ansC_len]) size4a O0.out ?_)
 (try simp only [Act.put])
 clear N0
 have CB2 := hide (CB.out.keep G1.out)
 have AB2 := hide (AB.out.keep G1.out)
 clear CB AB
 generalize putV (W1.alloc (.cells (ansC 0 0 (.slice none 0 0) (.slice none 0 0)).toArray 34)) W1.heap.size 0 (ansC en 0 (.slice a m k) (.slice a' m' k')) = W2 at *
 have N2 := hide (show BlkV (W2.setCell ⟨W1.heap.size, 1, none⟩ (.int .i64 c.v)) W1.heap.size 34 (ansC en c.v (.slice a m k) (.slice a' m' k')) from N1.out.set 1 (.int .i64 c.v))
 have G2 := hide (grown_own G1.out (grown_setCell W2 ⟨W1.heap.size, 1, none⟩ (.int .i64 c.v)) (Nat.le_refl _))
 have AB3 := hide (AB2.out.keepBut (grown_setCell W2 ⟨W1.heap.size, 1, none⟩ (.int .i64 c.v)) (by have := LT.out; show _ ≠ W1.heap.size; omega))
 have kc1 := BlkV.cell CB2.out 1
 have na1 := BlkV.cell N1.out 1
 have nf1 := BlkV.free N1.out 1
 simp [clC] at kc1
 simp [ansC] at na1
 generalize W1.heap.size = bn at *
 go_upto_region 3 with fail
 clear kc1 na1 nf1 CB2 N1 AB2 G1
 generalize W2.setCell ⟨bn, 1, none⟩ (.int .i64 c.v) = W3 at *
 have P := ansP (en' := en) (v' := c.v) (vb' := .slice a m k) (vl' := .slice a' m' k') AB3.out
 have hlv := loadA P.1
 have FF := hide (FN2.out W3 G2.out AB3.out)
 clear P FN2 G2
 go_wp2_with (first | refine wpList_load_v rfl 34 _ rfl bn 0 4 rfl 34 (ansC en c.v (.slice a m k) (.slice a' m' k')) N2.out _ Tryz.underlying34 rfl size4a (by simp [ansC_len]) _ rfl ?_ | refine wpList_store_v rfl 34 _ _ rfl (w.heap.size + 1) 0 34 (ansC 0 0 (.slice none 0 0) (.slice none 0 0)) (ansC en c.v (.slice a m k) (.slice a' m' k')) rfl rfl AB3.out (by simp [ansC_len]) size4a O1.out ?_)
 refine bodyPost_ret (v := .agg (ansC en c.v (.slice a m k) (.slice a' m' k')).toArray) ?_ rfl FF.out
 simp [results, Tryz.results9, asAddr, Act.put, hlv]
theorem dkDo_any (W : World) (pc : CEn 20 W) (pd : CDe 22 W) (pe : CErs 23 W) (pb : CBg 17 W) (pf : CFr 18 W) (d : Nat) (F : Int → Option Ses) (n : Nat) (Z : Nat → Prop) (c : Cl) (a1 : Option Addr) (n1 c1 : Nat) (a2 : Option Addr) (n2 c2 : Nat) (w : World) (h : DkW w d F n Z) (gw : W.grownBy w none) (hc : ClOk w c (.slice a1 n1 c1) (.slice a2 n2 c2)) : Calls Tryz.prog 9 #[.pointer (some ⟨d, 0, none⟩), clV c (.slice a1 n1 c1) (.slice a2 n2 c2)] w (DkE w d F n Z c c.v) := by
 refine dkDo_gen (some ⟨d, 0, none⟩) c a1 n1 c1 a2 n2 c2 w (fun W0 => DkE W0 d F n Z c 0) _ (fun W0 g => dkAnswered_any W pc pd pe pb pf d F n Z c a1 n1 c1 a2 n2 c2 W0 (h.keep g) (grown_none gw g) (clOk_keep hc g)) (fun W0 x W1 g q => dkE_form q) (fun W0 x W1 T cs A g q hA hb => dkE_blk q hb (fun z => by have := h.zl _ z; omega)) (fun W0 W1 W2 en a m k a' m' k' g hs q g2 hA => ?_)
 exact (dkE_store g hs (by omega) h.zl (dkE_keep q g2) hA c.v).2
end Go.Proofs.YtdejpongekicdaaGreatDoor

/- DkL -/
namespace Go.Proofs.YtdejpongekicdaaGreatDoor
open Go.RowKit
set_option linter.unusedVariables false
set_option linter.unusedSimpArgs false
set_option maxHeartbeats 4000000
theorem zCall (u : World) : Sem.run Tryz.prog (zeroValue 37) u = .ok (.agg (clC ⟨0, 0, false, [], []⟩ (.slice none 0 0) (.slice none 0 0)).toArray) u := by kernel_rfl
theorem clC_one (c : Cl) (a1 : Option Addr) (n1 c1 : Nat) (a2 : Option Addr) (n2 c2 : Nat) : ∀ x ∈ clC c (.slice a1 n1 c1) (.slice a2 n2 c2), x.oneCell' = true := by
 intro x hx
 simp [clC] at hx
 rcases hx with rfl | rfl | rfl | rfl | rfl <;> rfl
theorem loadC {W : World} {b : Nat} {c : Cl} {vs vb : Value} (h : BlkV W b 37 (clC c vs vb)) : Sem.run Tryz.prog (loadVar 37 ⟨b, 0, none⟩) W = .ok (.agg (clC c vs vb).toArray) W :=
 loadVar_v h _ Tryz.underlying37 rfl size5c
theorem clP {W : World} {b : Nat} {c c' : Cl} {vs vb vs' vb' : Value} (h : BlkV W b 37 (clC c vs vb)) : BlkV (putV W b 0 (clC c' vs' vb')) b 37 (clC c' vs' vb') ∧ W.grownBy (putV W b 0 (clC c' vs' vb')) (some b) := by
 have := put_v h 0 (clC c' vs' vb') (by simp [clC])
 rwa [splV_all (clC c vs vb) (clC c' vs' vb') rfl] at this
def ClE (w : World) (c : Cl) (x : Ending) (w' : World) : Prop := ∃ a1 n1 c1 a2 n2 c2, x = .returned (clV c (.slice a1 n1 c1) (.slice a2 n2 c2)) ∧ ClOk w' c (.slice a1 n1 c1) (.slice a2 n2 c2) ∧ Own w.heap.size w' (.slice a1 n1 c1) c.l ∧ OwnB w.heap.size w' (.slice a2 n2 c2) c.b ∧ w.grownBy w' none
theorem clE_fin {w w' : World} {c : Cl} {vs vb : Value} {a1 : Option Addr} {n1 c1 : Nat} {a2 : Option Addr} {n2 c2 : Nat} (h : ClOk w c vs vb) (o1 : Own w.heap.size w' (.slice a1 n1 c1) c.l) (o2 : OwnB w.heap.size w' (.slice a2 n2 c2) c.b) (g : w.grownBy w' none) : ClE w c (.returned (.agg (clC c (.slice a1 n1 c1) (.slice a2 n2 c2)).toArray)) w' :=
 ⟨a1, n1, c1, a2, n2, c2, rfl, ⟨h.hk, h.hv, o1.ints, o1.shp, h.ll, h.nl, o2.byts, o2.shp, h.bb, h.nb⟩, o1, o2, g⟩
set_option maxRecDepth 100000 in
theorem call_voxsattop (c : Cl) (a1 : Option Addr) (n1 c1 : Nat) (a2 : Option Addr) (n2 c2 : Nat) (w : World) (h : ClOk w c (.slice a1 n1 c1) (.slice a2 n2 c2)) : Calls Tryz.prog 13 #[clV c (.slice a1 n1 c1) (.slice a2 n2 c2)] w (ClE w c) := by
 have hz := zCall
 have FN := hide (fun w' a1 n1 c1 a2 n2 c2 (o1 : Own w.heap.size w' (.slice a1 n1 c1) c.l) (o2 : OwnB w.heap.size w' (.slice a2 n2 c2) c.b) g => clE_fin h o1 o2 g)
 have C0 := hide ((BlkV.new w 37 (clC c (.slice a1 n1 c1) (.slice a2 n2 c2))).keep (grown_alloc _ (.cells (clC ⟨0, 0, false, [], []⟩ (.slice none 0 0) (.slice none 0 0)).toArray 37) none))
 have R0 := hide (show BlkV ((w.alloc (.cells (clC c (.slice a1 n1 c1) (.slice a2 n2 c2)).toArray 37)).alloc (.cells (clC ⟨0, 0, false, [], []⟩ (.slice none 0 0) (.slice none 0 0)).toArray 37)) (w.heap.size + 1) 37 (clC ⟨0, 0, false, [], []⟩ (.slice none 0 0) (.slice none 0 0)) from by have := BlkV.new (w.alloc (.cells (clC c (.slice a1 n1 c1) (.slice a2 n2 c2)).toArray 37)) 37 (clC ⟨0, 0, false, [], []⟩ (.slice none 0 0) (.slice none 0 0)); simpa using this)
 have G0 := hide (grown_none (grown_alloc w (.cells (clC c (.slice a1 n1 c1) (.slice a2 n2 c2)).toArray 37) none) (grown_alloc _ (.cells (clC ⟨0, 0, false, [], []⟩ (.slice none 0 0) (.slice none 0 0)).toArray 37) none))
 have IL := hide (Ints_keep h.il G0.out)
 have IB := hide (Byts_keep h.ib G0.out)
 have SL := hide h.sl
 have SB := hide h.sb
 have NL := hide h.nl
 have NB := hide h.nb
 have IBW := hide h.ib
 clear h
 generalize ClE w c = T at *
 unfold clV
 go_enter Tryz.func13, Tryz.ntmps13
 go_upto_region 1 with fail
 change Code.wp _ _ _ _ ((w.alloc (.cells (clC c (.slice a1 n1 c1) (.slice a2 n2 c2)).toArray 37)).alloc (.cells (clC ⟨0, 0, false, [], []⟩ (.slice none 0 0) (.slice none 0 0)).toArray 37))
 generalize (w.alloc (.cells (clC c (.slice a1 n1 c1) (.slice a2 n2 c2)).toArray 37)).alloc (.cells (clC ⟨0, 0, false, [], []⟩ (.slice none 0 0) (.slice none 0 0)).toArray 37) = W0 at *
 have LS := hide (show w.heap.size + 2 ≤ W0.heap.size from R0.out.lt)
 have kc3 := BlkV.cell C0.out 3
 simp [clC] at kc3
 go_wp2_with (first | refine wpList_append_both rfl _ _ rfl (w.heap.size + 2) (.slice none 0 0) (.slice a1 n1 c1) [] c.l rfl rfl (Own_nil _ _) IL.out SL.out (by have := NL.out; simp; omega) LS.out ?_)
 intro v1 W1 o1 g1
 replace o1 : Own (w.heap.size + 2) W1 v1 c.l := o1
 replace g1 : W0.grownBy W1 none := g1
 obtain ⟨b1, m1, k1, rfl⟩ := shp_sl o1.shp
 have C1 := hide (C0.out.keep g1)
 have R1 := hide (R0.out.keep g1)
 have G1 := hide (grown_none G0.out g1)
 have IB1 := hide (Byts_keep IB.out g1)
 have ca := BlkV.cell C1.out 3
 have cf := BlkV.free C1.out 3
 simp [clC] at ca
 have S1 := grown_setCell W1 ⟨w.heap.size, 3, none⟩ (.slice b1 m1 k1)
 have C2 := hide (show BlkV (W1.setCell ⟨w.heap.size, 3, none⟩ (.slice b1 m1 k1)) w.heap.size 37 (clC c (.slice b1 m1 k1) (.slice a2 n2 c2)) from C1.out.set 3 _)
 have R2 := hide (R1.out.keepBut S1 (by show _ ≠ w.heap.size; omega))
 have G2 := hide (grown_own G1.out S1 (Nat.le_refl _))
 have O2 := hide (o1.keepLt S1 (by show w.heap.size < _; omega))
 have IB2 := hide (show Byts (W1.setCell ⟨w.heap.size, 3, none⟩ (.slice b1 m1 k1)) (.slice a2 n2 c2) c.b from Byts_keep IBW.out G2.out)
 have LS1 := hide (Nat.le_trans LS.out (World.grownBy.size g1))
 clear kc3 C0 R0 G0 IL IB IB1 o1 g1 S1 G1 R1
 go_upto_region 2 with fail
 clear ca cf C1
 have LS2 := hide (show w.heap.size + 2 ≤ (W1.setCell ⟨w.heap.size, 3, none⟩ (.slice b1 m1 k1)).heap.size from R2.out.lt)
 generalize W1.setCell ⟨w.heap.size, 3, none⟩ (.slice b1 m1 k1) = W2 at *
 have kc4 := BlkV.cell C2.out 4
 simp [clC] at kc4
 go_wp2_with (first | refine wpList_append_bothB rfl _ _ rfl (w.heap.size + 2) (.slice none 0 0) (.slice a2 n2 c2) [] c.b rfl rfl (OwnB_nil _ _) IB2.out SB.out (by have := NB.out; simp; omega) LS2.out ?_)
 intro v3 W3 o3 g3
 replace o3 : OwnB (w.heap.size + 2) W3 v3 c.b := o3
 replace g3 : W2.grownBy W3 none := g3
 obtain ⟨b3, m3, k3, rfl⟩ := shp_sl o3.shp
 have C3 := hide (C2.out.keep g3)
 have R3 := hide (R2.out.keep g3)
 have G3 := hide (grown_none G2.out g3)
 have O3 := hide (O2.out.keep g3)
 have ca := BlkV.cell C3.out 4
 have cf := BlkV.free C3.out 4
 simp [clC] at ca
 have S1 := grown_setCell W3 ⟨w.heap.size, 4, none⟩ (.slice b3 m3 k3)
 have C4 := hide (show BlkV (W3.setCell ⟨w.heap.size, 4, none⟩ (.slice b3 m3 k3)) w.heap.size 37 (clC c (.slice b1 m1 k1) (.slice b3 m3 k3)) from C3.out.set 4 _)
 have R4 := hide (R3.out.keepBut S1 (by show _ ≠ w.heap.size; omega))
 have G4 := hide (grown_own G3.out S1 (Nat.le_refl _))
 have O4 := hide (O3.out.keepLt S1 (by show w.heap.size < _; omega))
 have P4 := hide (o3.keepLt S1 (by show w.heap.size < _; omega))
 clear kc4 C2 R2 G2 O2 IB2 o3 g3 S1 G3 R3 O3
 go_upto_region 3 with fail
 clear ca cf C3
 generalize W3.setCell ⟨w.heap.size, 4, none⟩ (.slice b3 m3 k3) = W4 at *
 have P := clP (c' := c) (vs' := .slice b1 m1 k1) (vb' := .slice b3 m3 k3) R4.out
 have hlv := loadC P.1
 have FF := hide (FN.out _ _ _ _ _ _ _ ((O4.out.keepLt P.2 (by omega)).base (by omega)) ((P4.out.keepLt P.2 (by omega)).base (by omega)) (grown_own G4.out P.2 (by omega)))
 have O1 := hide (clC_one c b1 m1 k1 b3 m3 k3)
 clear P FN G4 O4 P4
 go_wp2_with (first | refine wpList_load_v rfl 37 _ rfl w.heap.size 0 5 rfl 37 (clC c (.slice b1 m1 k1) (.slice b3 m3 k3)) C4.out _ Tryz.underlying37 rfl size5c (by simp [clC]) _ rfl ?_ | refine wpList_store_v rfl 37 _ _ rfl (w.heap.size + 1) 0 37 (clC ⟨0, 0, false, [], []⟩ (.slice none 0 0) (.slice none 0 0)) (clC c (.slice b1 m1 k1) (.slice b3 m3 k3)) rfl rfl R4.out (by simp [clC]) size5c O1.out ?_)
 refine bodyPost_ret (v := .agg (clC c (.slice b1 m1 k1) (.slice b3 m3 k3)).toArray) ?_ rfl FF.out
 simp [results, Tryz.results13, asAddr, Act.put, hlv]
end Go.Proofs.YtdejpongekicdaaGreatDoor

/- OpensC -/
namespace Go.Proofs.YtdejpongekicdaaGreatDoor
set_option maxRecDepth 100000
open Go.ChangeShapes Go.WideShapes Go.ChangeAt Go.RowKit Go.Deep
set_option linter.unusedVariables false
set_option linter.unusedSimpArgs false
theorem wei_of {H : Type} {ts : List TypeId} {ds : List (DataW H)} {j : Nat} {t : TypeId} {d : DataW H} (hsz : (DataW.weightsEach Tryz.prog ts ds).all (· ≤ reachBytes) = true) (ht : ts[j]? = some t) (hd : ds[j]? = some d) : ∀ n ∈ d.weights Tryz.prog t, n ≤ reachBytes := fun n hn => by
 have := List.all_eq_true.1 hsz n (DataW.weights_mem_each ht hd n hn)
 simpa using this
theorem list_of_trod {H : Type} {enc : TypeId × Value → H} {W : World} {fuel : Nat} {v : Value} {x : DataW H × List MemPlace} (hf : DataW.trod enc Tryz.prog W 0 (fun _ => true) true fuel 26 [v] = some x) (hw : ∀ n ∈ x.1.weights Tryz.prog 26, n ≤ reachBytes) :
  ∃ l : List Int, Ints W v l ∧ l.length * 8 ≤ 140737488351232 ∧ In64 l ∧ Shp v l := by
 rcases open_ints Tryz.underlying26 Tryz.underlying3 o_cellsInt hf with ⟨hcs, hx⟩ | ⟨a, len, cap, zs, hcs, _, hl, hm, hz, hx, hcell, hwz⟩
 ·simp at hcs
  subst hcs
  exact ⟨[], ⟨none, 0, rfl, Nat.le_refl _, fun h => by simp at h⟩, by simp, fun i => by simp [nth], .inl rfl⟩
 ·simp at hcs
  subst hcs
  subst hx
  simp at hz
  have hs := hw ((lits .i64 (zs.take len) : List (DataW H)).length * 8 + (lits .i64 (zs.drop len) : List (DataW H)).length * 8) (by simp [DataW.weights, Tryz.underlying26, o_bytesInt, Nat.add_mul])
  simp only [lits, List.length_map, List.length_take, List.length_drop, reachBytes] at hs
  have e : (zs.take len).length = len := by simp; omega
  refine ⟨zs.take len, ⟨some a, cap, by rw [e], by rw [e]; exact hl, fun _ => ⟨a, rfl, fun i hi => ?_⟩⟩, by rw [e]; omega, fun i => ?_, .inr ⟨a, cap, by rw [e]⟩⟩
  ·rw [e] at hi
   rw [hcell i (by omega)]
   simp [nth, List.getD, List.getElem?_take, hi]
  ·by_cases hi : i < (zs.take len).length
   ·have hw := hwz ((zs.take len)[i]) (List.mem_of_mem_take (List.getElem_mem hi))
    have := bounds_i64 hw
    rw [show nth (zs.take len) i = (zs.take len)[i] by unfold nth; rw [List.getD, List.getElem?_eq_getElem hi]; rfl]
    exact this
   ·rw [getD_out _ i (by omega)]; omega
theorem byts_of_trod {H : Type} {enc : TypeId × Value → H} {W : World} {fuel : Nat} {v : Value} {x : DataW H × List MemPlace} (hf : DataW.trod enc Tryz.prog W 0 (fun _ => true) true fuel 32 [v] = some x) (hw : ∀ n ∈ x.1.weights Tryz.prog 32, n ≤ reachBytes) :
  ∃ l : List Int, Byts W v l ∧ l.length ≤ 140737488351232 ∧ byB l ∧ Shp v l := by
 rcases open_ints Tryz.underlying32 Tryz.underlying5 o_cellsByt hf with ⟨hcs, hx⟩ | ⟨a, len, cap, zs, hcs, _, hl, hm, hz, hx, hcell, hwz⟩
 ·simp at hcs
  subst hcs
  exact ⟨[], ⟨none, 0, rfl, Nat.le_refl _, fun h => by simp at h⟩, by simp, fun i => by simp [nth], .inl rfl⟩
 ·simp at hcs
  subst hcs
  subst hx
  simp at hz
  have hs := hw ((lits .u8 (zs.take len) : List (DataW H)).length * 1 + (lits .u8 (zs.drop len) : List (DataW H)).length * 1) (by simp [DataW.weights, Tryz.underlying32, o_bytesByt, Nat.add_mul])
  simp only [lits, List.length_map, List.length_take, List.length_drop, reachBytes] at hs
  have e : (zs.take len).length = len := by simp; omega
  refine ⟨zs.take len, ⟨some a, cap, by rw [e], by rw [e]; exact hl, fun _ => ⟨a, rfl, fun i hi => ?_⟩⟩, by rw [e]; omega, fun i => ?_, .inr ⟨a, cap, by rw [e]⟩⟩
  ·rw [e] at hi
   rw [hcell i (by omega)]
   simp [nth, List.getD, List.getElem?_take, hi]
  ·by_cases hi : i < (zs.take len).length
   ·have hw := hwz ((zs.take len)[i]) (List.mem_of_mem_take (List.getElem_mem hi))
    have := byt_wf hw
    rw [show nth (zs.take len) i = (zs.take len)[i] by unfold nth; rw [List.getD, List.getElem?_eq_getElem hi]; rfl]
    exact this
   ·rw [getD_out _ i (by omega)]; omega
theorem clF : ∃ f0 f1 f2 f3 f4 : Field, Tryz.prog.underlying 37 = some (.struct #[f0, f1, f2, f3, f4]) ∧ (f0.type = 3 ∧ f0.offset = 0) ∧ (f1.type = 3 ∧ f1.offset = 1) ∧ (f2.type = 4 ∧ f2.offset = 2) ∧ (f3.type = 26 ∧ f3.offset = 3) ∧ (f4.type = 32 ∧ f4.offset = 4) :=
 ⟨_, _, _, _, _, Tryz.underlying37, ⟨rfl, rfl⟩, ⟨rfl, rfl⟩, ⟨rfl, rfl⟩, ⟨rfl, rfl⟩, ⟨rfl, rfl⟩⟩
theorem cl_cells : Tryz.prog.cellsOf 37 = 5 := by kernel_rfl
theorem c_cellsBool : Tryz.prog.cellsOf 4 = 1 := by kernel_rfl
theorem c_cellsList : Tryz.prog.cellsOf 26 = 1 := by kernel_rfl
theorem c_cellsBytes : Tryz.prog.cellsOf 32 = 1 := by kernel_rfl
structure ClV where
 c : Cl
 a1 : Option Addr
 n1 : Nat
 c1 : Nat
 a2 : Option Addr
 n2 : Nat
 c2 : Nat
def ClV.ok (W : World) (z : ClV) : Prop := ClOk W z.c (.slice z.a1 z.n1 z.c1) (.slice z.a2 z.n2 z.c2)
def ClV.cs (z : ClV) : List Value := clC z.c (.slice z.a1 z.n1 z.c1) (.slice z.a2 z.n2 z.c2)
theorem cl_of_trod {H : Type} {enc : TypeId × Value → H} {W : World} {fuel : Nat} {cs : List Value} {x : DataW H × List MemPlace} (hl : cs.length = 5) (hf : DataW.trod enc Tryz.prog W 0 (fun _ => true) true fuel 37 cs = some x) (hw : ∀ n ∈ x.1.weights Tryz.prog 37, n ≤ reachBytes) :
  ∃ z : ClV, cs = z.cs ∧ z.ok W := by
 obtain ⟨f0, f1, f2, f3, f4, hu, ⟨t0, p0⟩, ⟨t1, p1⟩, ⟨t2, p2⟩, ⟨t3, p3⟩, ⟨t4, p4⟩⟩ := clF
 obtain ⟨xs, n, _, hx, _, hxs, hfd⟩ := DataW.trod_struct hu hf
 subst hx
 match cs, hl with
 | [v0, v1, v2, v3, v4], _ =>
  have hxl : xs.length = 5 := by simpa using hxs
  have g0 := hfd 0 f0 rfl
  have g1 := hfd 1 f1 rfl
  have g2 := hfd 2 f2 rfl
  have g3 := hfd 3 f3 rfl
  have g4 := hfd 4 f4 rfl
  rw [t0, p0, o_cellsInt, List.getElem?_eq_getElem (by omega)] at g0
  rw [t1, p1, o_cellsInt, List.getElem?_eq_getElem (by omega)] at g1
  rw [t2, p2, c_cellsBool, List.getElem?_eq_getElem (by omega)] at g2
  rw [t3, p3, c_cellsList, List.getElem?_eq_getElem (by omega)] at g3
  rw [t4, p4, c_cellsBytes, List.getElem?_eq_getElem (by omega)] at g4
  have hwe : ∀ (j : Nat) (t : TypeId) (y : DataW H × List MemPlace), ([f0.type, f1.type, f2.type, f3.type, f4.type] : List TypeId)[j]? = some t → xs[j]? = some y → ∀ m ∈ y.1.weights Tryz.prog t, m ≤ reachBytes := fun j t y ht hy m hm => by
   refine hw m ?_
   simp only [DataW.weights, hu]
   exact DataW.weights_mem_each (j := j) (t := t) (d := y.1) (by simpa using ht) (by rw [List.getElem?_map, hy]; rfl) m hm
  have w3 := hwe 3 26 _ (by rw [← t3]; rfl) (List.getElem?_eq_getElem (by omega))
  have w4 := hwe 4 32 _ (by rw [← t4]; rfl) (List.getElem?_eq_getElem (by omega))
  obtain ⟨l, hI, hIl, hI64, hIs⟩ := list_of_trod (v := v3) g3 w3
  obtain ⟨b, hB, hBl, hBy, hBs⟩ := byts_of_trod (v := v4) g4 w4
  obtain ⟨r, hr, _⟩ := DataW.trod_bool Tryz.underlying4 g2
  obtain ⟨z0, h0, _, q0⟩ := DataW.trod_int Tryz.underlying3 g0
  obtain ⟨z1, h1, _, q1⟩ := DataW.trod_int Tryz.underlying3 g1
  simp at hr h0 h1
  subst hr h0 h1
  obtain ⟨a1, n1, c1, rfl⟩ := shp_sl hIs
  obtain ⟨a2, n2, c2, rfl⟩ := shp_sl hBs
  exact ⟨⟨⟨z0, z1, r, l, b⟩, a1, n1, c1, a2, n2, c2⟩, rfl, ⟨bounds_i64 q0, bounds_i64 q1, hI, hIs, hI64, hIl, hB, hBs, hBy, hBl⟩⟩
def Cals (W : World) (v : Value) (n : Nat) (L : Nat → ClV) : Prop := ∃ ad k, v = .slice ad n k ∧ n ≤ k ∧ k ≤ 9223372036854775807 ∧ (0 < n → ∃ b o, ad = some ⟨b, o, none⟩ ∧ ∀ i, i < n → (∀ j, j < 5 → W.cell? ⟨b, o + i * 5 + j, none⟩ = (L i).cs[j]?) ∧ (L i).ok W)
theorem open_cals {H : Type} {enc : TypeId × Value → H} {W : World} {base : Nat} {v : Value} {d : DataW H} {p : List MemPlace} {ts : List TypeId} {ds : List (DataW H)} {j : Nat}
  (hv : Value.okWide Tryz.prog W .any base 22 v) (h : DataW.Trod enc Tryz.prog W 0 (fun _ => true) true 22 v d p) (hsz : (DataW.weightsEach Tryz.prog ts ds).all (· ≤ reachBytes) = true) (ht : ts[j]? = some 22) (hd : ds[j]? = some d) : ∃ (n : Nat) (L : Nat → ClV), Cals W v n L := by
 have hw := wei_of hsz ht hd
 obtain ⟨a0, len, cap, rfl⟩ := okWide_slice Tryz.underlying22 hv
 obtain ⟨fuel, hf⟩ := h
 rcases open_slice Tryz.underlying22 hf with ⟨hcs, hx⟩ | ⟨a, len', cap', m, n, D, Pl, hcs, _, hl, hm, hmm, hx, hel⟩
 ·simp [Value.cells] at hcs
  obtain ⟨rfl, rfl, rfl⟩ := hcs
  exact ⟨0, fun _ => ⟨⟨0, 0, false, [], []⟩, none, 0, 0, none, 0, 0⟩, none, 0, rfl, Nat.le_refl _, by omega, fun h => by omega⟩
 ·simp [Value.cells] at hcs
  obtain ⟨rfl, rfl, rfl⟩ := hcs
  simp at hmm
  subst hmm
  unfold maxLen at hm
  rw [cl_cells] at hel
  simp only [Prod.mk.injEq] at hx
  obtain ⟨rfl, _⟩ := hx
  rcases Nat.eq_zero_or_pos len with h0 | h0
  ·subst h0
   exact ⟨0, fun _ => ⟨⟨0, 0, false, [], []⟩, none, 0, 0, none, 0, 0⟩, _, _, rfl, Nat.zero_le _, by omega, fun h => by omega⟩
  ·obtain ⟨b, o, sp⟩ := a
   have hs : sp = none := by
    obtain ⟨cs', h1, _⟩ := hel 0 (by omega)
    obtain ⟨_, hl5, hat⟩ := World.cells?_some h1
    have := hat 0 (by omega)
    rw [List.getElem?_eq_getElem (by omega), show (0 * 5 : Nat) = 0 from rfl] at this
    simp only [Addr.add, if_pos] at this
    unfold World.cell? at this
    simp only at this
    split at this
    ·cases sp with
     | none => rfl
     | some q => simp at this
    ·simp at this
   subst hs
   have wall : ∀ (l : List (DataW H)) (y : DataW H), y ∈ l → ∀ q ∈ y.weights Tryz.prog 37, q ∈ DataW.weightsAll Tryz.prog 37 l := by
    intro l
    induction l with
    | nil => intro y hy; cases hy
    | cons a r ih =>
     intro y hy q hq
     simp only [DataW.weightsAll, List.mem_append]
     rcases List.mem_cons.1 hy with rfl | hy
     ·exact .inl hq
     ·exact .inr (ih y hy q hq)
   have each : ∀ i, i < len → ∃ z : ClV, (∀ j, j < 5 → W.cell? ⟨b, o + i * 5 + j, none⟩ = z.cs[j]?) ∧ z.ok W := fun i hi => by
    obtain ⟨cs', h1, h2⟩ := hel i (by omega)
    rw [Addr.add_mid] at h1
    obtain ⟨_, hl5, hat⟩ := World.cells?_some h1
    obtain ⟨z, e, k⟩ := cl_of_trod hl5 h2 (fun q hq => hw q (by
     simp only [DataW.weights, Tryz.underlying22]
     refine List.mem_cons_of_mem _ (List.mem_append_left _ (wall _ (D i) (List.mem_map.2 ⟨i, List.mem_range.2 hi, rfl⟩) q hq))))
    refine ⟨z, fun j hj => ?_, k⟩
    have := hat j (by omega)
    rw [Addr.add_mid] at this
    rw [this, e]
   have : Inhabited ClV := ⟨⟨⟨0, 0, false, [], []⟩, none, 0, 0, none, 0, 0⟩⟩
   obtain ⟨L, hL⟩ := choose_lt (α := ClV) (p := fun i z => (∀ j, j < 5 → W.cell? ⟨b, o + i * 5 + j, none⟩ = z.cs[j]?) ∧ z.ok W) each
   exact ⟨len, L, _, _, rfl, hl, by omega, fun _ => ⟨b, o, rfl, hL⟩⟩
end Go.Proofs.YtdejpongekicdaaGreatDoor

/- TopC -/
namespace Go.Proofs.YtdejpongekicdaaGreatDoor
open Go.RowKit
set_option linter.unusedVariables false
set_option linter.unusedSimpArgs false
set_option maxHeartbeats 4000000
set_option maxRecDepth 100000 in
theorem topSameA_any (en v : Int) (a1 : Option Addr) (n1 c1 : Nat) (a2 : Option Addr) (n2 c2 : Nat) (b1 : Option Addr) (m1 k1 : Nat) (b2 : Option Addr) (m2 k2 : Nat) (B L : List Int) (w : World) (h1 : Byts w (.slice a1 n1 c1) B) (s1 : Shp (.slice a1 n1 c1) B) (h2 : Ints w (.slice a2 n2 c2) L) (h3 : Byts w (.slice b1 m1 k1) B) (s3 : Shp (.slice b1 m1 k1) B) (h4 : Ints w (.slice b2 m2 k2) L) (hL : L.length ≤ 1000000000000000000) :
  Calls Tryz.prog 14 #[ansV en v (.slice a1 n1 c1) (.slice a2 n2 c2), ansV en v (.slice b1 m1 k1) (.slice b2 m2 k2)] w fun x w' => x = .returned (.bool true) ∧ w.grownBy w' none := by
 have G0 := grown_none (grown_alloc w (.cells #[.int .i64 en, .int .i64 v, .slice a1 n1 c1, .slice a2 n2 c2] 34) none) (grown_alloc _ (.cells #[.int .i64 en, .int .i64 v, .slice b1 m1 k1, .slice b2 m2 k2] 34) none)
 have q1 := conv_byts (Byts_keep h1 G0) (shp_c s1)
 have q3 := conv_byts (Byts_keep h3 G0) (shp_c s3)
 have SA := hide (topSame_any _ _ L L _ (Ints_keep h2 G0) (Ints_keep h4 G0) hL hL)
 rw [decide_eq_true (rfl : L = L)] at SA
 have GG := hide G0
 clear h1 h2 h3 h4 s1 s3 G0
 generalize strOfNums B = sb at *
 unfold ansV
 go_enter Tryz.func14, Tryz.ntmps14
 go_wp2_with fail
 refine SA.out.mono ?_
 rintro x W1 ⟨rfl, k, rfl⟩
 go_wp2_with fail
 go_ret
 exact ⟨rfl, grown_none GG.out (grown_drewN' _ _ _)⟩
end Go.Proofs.YtdejpongekicdaaGreatDoor

/- TopL -/
namespace Go.Proofs.YtdejpongekicdaaGreatDoor
open Go.RowKit
set_option linter.unusedVariables false
set_option linter.unusedSimpArgs false
set_option maxHeartbeats 8000000
theorem opn_32 (o : Option Ses) {n m : Nat} (v : Int) (hn : n < 32) (hm : m < 32) : opnC o n v = opnC o m v := by
 unfold opnC
 rw [if_neg (show ¬ 32 ≤ n by omega), if_neg (show ¬ 32 ≤ m by omega)]
theorem dkC_32 (o : Option Ses) {n m : Nat} (c : Cl) (hn : n < 32) (hm : m < 32) : dkC o n c = dkC o m c := by
 unfold dkC
 rw [opn_32 o c.v hn hm]
theorem dkO_32 (o : Option Ses) {n m : Nat} (c : Cl) (hn : n < 32) (hm : m < 32) : dkO o n c = dkO o m c := by
 unfold dkO
 rw [opn_32 o c.v hn hm]
theorem blk_keepR {w w' : World} {A : Nat} {T : TypeId} {cs : List Value} {r : Option Nat} (h : BlkV w A T cs) (g : w.grownBy w' r) (hr : ∀ b, r = some b → b ≠ A) : BlkV w' A T cs :=
 (g.block _ (lt_of_some h) (fun e => hr A e.symm rfl)).trans h
theorem own_keepR {base : Nat} {w w' : World} {v : Value} {l : List Int} {r : Option Nat} (h : Own base w v l) (g : w.grownBy w' r) (hr : ∀ b, r = some b → b < base) : Own base w' v l := by
 rcases r with _ | b
 ·exact h.keep g
 ·exact h.keepLt g (hr b rfl)
theorem ownB_keepR {base : Nat} {w w' : World} {v : Value} {l : List Int} {r : Option Nat} (h : OwnB base w v l) (g : w.grownBy w' r) (hr : ∀ b, r = some b → b < base) : OwnB base w' v l := by
 rcases r with _ | b
 ·exact h.keep g
 ·exact h.keepLt g (hr b rfl)
structure Two (w : World) (d e : Nat) (F1 : Int → Option Ses) (n1 : Nat) (Z1 : Nat → Prop) (F2 : Int → Option Ses) (n2 : Nat) (Z2 : Nat → Prop) (wr : World) : Prop where
 d1 : DkW wr d F1 n1 Z1
 d2 : DkW wr e F2 n2 Z2
 ap : ∀ b, Z1 b → ¬ Z2 b
 b1 : ∀ b, Z1 b → w.heap.size ≤ b
 b2 : ∀ b, Z2 b → w.heap.size ≤ b
 gr : w.grownBy wr none
theorem Two.keep {w : World} {d e : Nat} {F1 : Int → Option Ses} {n1 : Nat} {Z1 : Nat → Prop} {F2 : Int → Option Ses} {n2 : Nat} {Z2 : Nat → Prop} {wr wr' : World} (h : Two w d e F1 n1 Z1 F2 n2 Z2 wr) (g : wr.grownBy wr' none) : Two w d e F1 n1 Z1 F2 n2 Z2 wr' :=
 ⟨h.d1.keep g, h.d2.keep g, h.ap, h.b1, h.b2, grown_none h.gr g⟩
theorem Two.swap {w : World} {d e : Nat} {F1 : Int → Option Ses} {n1 : Nat} {Z1 : Nat → Prop} {F2 : Int → Option Ses} {n2 : Nat} {Z2 : Nat → Prop} {wr : World} (h : Two w d e F1 n1 Z1 F2 n2 Z2 wr) : Two w e d F2 n2 Z2 F1 n1 Z1 wr :=
 ⟨h.d2, h.d1, fun b p q => h.ap b q p, h.b2, h.b1, h.gr⟩
structure TwoE (w : World) (d e : Nat) (F1 : Int → Option Ses) (n1 : Nat) (F2 : Int → Option Ses) (n2 : Nat) (Z1 Z2 : Nat → Prop) (c : Cl) (W1 : World) (a : Option Addr) (m k : Nat) (a' : Option Addr) (m' k' : Nat) (W2 : World) : Prop where
 ob : OwnB W1.heap.size W2 (.slice a m k) (dkB (F1 c.v) c)
 ol : Own W1.heap.size W2 (.slice a' m' k') (dkL (F1 c.v) c)
 ex : ∃ (Z' : Nat → Prop) (r : Option Nat), Two w d e (dkF F1 n1 c) (dkN (F1 c.v) n1 c) Z' F2 n2 Z2 W2 ∧ (∀ b, Z' b → Z1 b ∨ W1.heap.size ≤ b) ∧ W1.grownBy W2 r ∧ ∀ b, r = some b → Z1 b
theorem two_do {w : World} {d e : Nat} {F1 : Int → Option Ses} {n1 : Nat} {Z1 : Nat → Prop} {F2 : Int → Option Ses} {n2 : Nat} {Z2 : Nat → Prop} {W1 : World} (h : Two w d e F1 n1 Z1 F2 n2 Z2 W1) {c : Cl} {x : Ending} {W2 : World} (q : DkE W1 d F1 n1 Z1 c c.v x W2) {en : Int} (he : dkC (F1 c.v) n1 c = en) :
  ∃ a m k a' m' k', x = .returned (ansV en c.v (.slice a m k) (.slice a' m' k')) ∧ TwoE w d e F1 n1 F2 n2 Z1 Z2 c W1 a m k a' m' k' W2 := by
 obtain ⟨vb, vl, rfl, hB, hL, Z', r, i, hZ, gr, hr⟩ := q
 obtain ⟨a, m, k, rfl⟩ := shp_sl hB.shp
 obtain ⟨a', m', k', rfl⟩ := shp_sl hL.shp
 refine ⟨a, m, k, a', m', k', by rw [he], hB, hL, Z', r, ⟨i, h.d2.keepR gr (fun b e q => h.ap b (hr b e) q), fun b p q => ?_, fun b p => ?_, h.b2, grown_own' h.gr gr (fun b e => h.b1 b (hr b e))⟩, hZ, gr, hr⟩
 ·rcases hZ b p with z | z
  ·exact h.ap b z q
  ·have := h.d2.zl b q
   omega
 ·rcases hZ b p with z | z
  ·exact h.b1 b z
  ·exact Nat.le_trans h.gr.size z
def LnR (w : World) (d e : Nat) (voice : Int) (k : Nat) (wr : World) : Prop :=
 ∃ F1 n1 Z1 F2 n2 Z2, Two w d e F1 n1 Z1 F2 n2 Z2 wr ∧ F1 voice = F2 voice ∧ n1 ≤ k ∧ n2 ≤ k
theorem nilOk (w : World) (k v : Int) (hk : In1 k) (hv : In1 v) (r : Bool) : ClOk w ⟨k, v, r, [], []⟩ (.slice none 0 0) (.slice none 0 0) :=
 ⟨hk, hv, Ints_nil w, .inl rfl, fun i => by simp [nth], by simp, ⟨none, 0, rfl, Nat.le_refl _, fun h => by simp at h⟩, .inl rfl, fun i => by simp [nth], by simp⟩
theorem build_call9 (u : World) : Sem.run Tryz.prog (Instr.build 37 #[(0, .int .i64 9)]) u = .ok (clV ⟨9, 0, false, [], []⟩ (.slice none 0 0) (.slice none 0 0)) u := by kernel_rfl
theorem field_code (en v : Int) (a : Option Addr) (m q : Nat) (a' : Option Addr) (m' q' : Nat) (u : World) : Sem.run Tryz.prog (Instr.field 34 (.agg #[.int .i64 en, .int .i64 v, .slice a m q, .slice a' m' q']) 0) u = .ok (.int .i64 en) u := by kernel_rfl
set_option maxRecDepth 100000 in
theorem law_topLone (w : World) (pc : CEn 20 w) (pd : CDe 22 w) (pe : CErs 23 w) (pb : CBg 17 w) (pf : CFr 18 w) (v : Value) (n : Nat) (L : Nat → ClV) (h : Cals w v n L) (voice : Int) :
  Calls Tryz.prog 5 #[v, .int .i64 voice] w fun e w' => e = .returned (.bool true) ∧ Below w.heap.size w w' := by
 obtain ⟨ad, cc, rfl, hc, hc63, hT⟩ := h
 have HT := hide hT
 have AL := hide (fun wr g => alive_any w pc pd pb pf wr g)
 have DO := hide (fun d F n Z c a1 n1 c1 a2 n2 c2 wr (h : DkW wr d F n Z) g ok => dkDo_any w pc pd pe pb pf d F n Z c a1 n1 c1 a2 n2 c2 wr h g ok)
 have NW := hide dkNew_any
 have b9 := build_call9
 have hz := zAns
 have F := hide (show ∀ w', w.grownBy w' none → (fun (e : Ending) (w' : World) => e = .returned (.bool true) ∧ Below w.heap.size w w') (.returned (.bool true)) w' from fun w' q => ⟨rfl, below_of_grown q⟩)
 obtain ⟨T, hT'⟩ : ∃ T : Ending → World → Prop, (fun (e : Ending) (w' : World) => e = .returned (.bool true) ∧ Below w.heap.size w w') = T := ⟨_, rfl⟩
 rw [hT'] at F ⊢
 clear hT' hT pc pd pe pb pf
 unfold AnsC at AL
 unfold ansC at hz
 go_enter Tryz.func5, Tryz.ntmps5
 go_wp2_with fail
 refine (NW.out w).mono ?_
 rintro x W1 ⟨d, Z1, rfl, k1, hz1, g1⟩
 go_wp2_with fail
 refine (NW.out W1).mono ?_
 rintro x W2 ⟨e, Z2, rfl, k2, hz2, g2⟩
 have R0 := hide (show LnR w d e voice 0 W2 from ⟨_, _, Z1, _, _, Z2, ⟨k1.keep g2, k2, fun b p q => by have := k1.zl b p; have := hz2 b q; omega, hz1, fun b q => Nat.le_trans g1.size (hz2 b q), grown_none g1 g2⟩, rfl, Nat.le_refl _, Nat.le_refl _⟩)
 clear NW k1 k2 hz1 hz2 g1 g2
 go_wp2_with fail
 go_loopw [7, 8] (fun s7 s8 wr => ∃ j k : Nat, s7 = .int .i64 j ∧ s8 = .int .i64 k ∧ j ≤ k ∧ k ≤ n ∧ k ≤ 30 ∧ Hid (LnR w d e voice k wr)) (fun s7 s8 _ => 30 - (intOf s8).toNat)
 case atStart => exact ⟨0, 0, rfl, rfl, Nat.le_refl _, Nat.zero_le _, by omega, R0.out⟩
 case round =>
  obtain ⟨j, k, rfl, rfl, hjk, hkn, hk30, hI⟩ := hrel
  clear R0
  by_cases hlt : k < n ∧ k < 30
  ·obtain ⟨hk1, hk2⟩ := hlt
   obtain ⟨b, o, rfl, hL⟩ := HT.out (by omega)
   obtain ⟨hcell, hok⟩ := hL k hk1
   obtain ⟨F1, n1, Z1, F2, n2, Z2, tw, hv, hn1, hn2⟩ := hI.out
   have hk30' : (k : Int) < 30 := by omega
   have hkn' : (k : Int) < n := by omega
   generalize hLk : L k = z at *
   obtain ⟨c, a1, m1, q1, a2, m2, q2⟩ := z
   have hok : ClOk w c (.slice a1 m1 q1) (.slice a2 m2 q2) := hok
   have k0 := grown_keep tw.gr (show w.cell? ⟨b, o + k * 5, none⟩ = some (.int .i64 c.k) from hcell 0 (by omega))
   have k1 := grown_keep tw.gr (show w.cell? ⟨b, o + k * 5 + 1, none⟩ = some (.int .i64 c.v) from hcell 1 (by omega))
   have k2 := grown_keep tw.gr (show w.cell? ⟨b, o + k * 5 + 2, none⟩ = some (.bool c.r) from hcell 2 (by omega))
   have k3 := grown_keep tw.gr (show w.cell? ⟨b, o + k * 5 + 3, none⟩ = some (.slice a1 m1 q1) from hcell 3 (by omega))
   have k4 := grown_keep tw.gr (show w.cell? ⟨b, o + k * 5 + 4, none⟩ = some (.slice a2 m2 q2) from hcell 4 (by omega))
   clear hcell hL HT AL F hLk hI
   have C0 := hide (BlkV.new wr 37 (clC c (.slice a1 m1 q1) (.slice a2 m2 q2)))
   have GA := grown_alloc wr (.cells (clC c (.slice a1 m1 q1) (.slice a2 m2 q2)).toArray 37) none
   have T0 := hide (tw.keep GA)
   have CA := hide (fun wx (g : w.grownBy wx none) => call_voxsattop c a1 m1 q1 a2 m2 q2 wx (clOk_keep hok g))
   unfold ClE at CA
   have LB := hide (show ∀ b, Z1 b ∨ Z2 b → b < wr.heap.size from fun b q => by rcases q with q | q; exact tw.d1.zl b q; exact tw.d2.zl b q)
   clear GA tw hok
   go_upto_region 7 with fail
   clear k0 k1 k2 k3 k4
   change Code.wp _ _ _ _ (wr.alloc (.cells (clC c (.slice a1 m1 q1) (.slice a2 m2 q2)).toArray 37))
   generalize wr.alloc (.cells (clC c (.slice a1 m1 q1) (.slice a2 m2 q2)).toArray 37) = W0 at *
   have LBT := hide C0.out.lt
   generalize wr.heap.size = bt at *
   go_wp2_with (first | refine wpList_load_v rfl 37 _ rfl bt 0 5 rfl 37 (clC c (.slice a1 m1 q1) (.slice a2 m2 q2)) C0.out _ Tryz.underlying37 rfl size5c (by simp [clC]) _ rfl ?_)
   refine (CA.out W0 T0.out.gr).mono ?_
   rintro x W3 ⟨x1, y1, z1, x2, y2, z2, rfl, ok3, _, _, g3⟩
   have T3 := hide (T0.out.keep g3)
   have C3 := hide (C0.out.keep g3)
   have D3 := hide (DO.out d F1 n1 Z1 c x1 y1 z1 x2 y2 z2 W3 T3.out.d1 T3.out.gr ok3)
   have LB3 := hide (show bt < W3.heap.size from C3.out.lt)
   clear T0 C0 LBT g3 ok3
   unfold clV at D3 ⊢
   go_wp2_with fail
   refine D3.out.mono ?_
   rintro x W4 q4
   obtain ⟨a, m, q, a', m', q', rfl, te⟩ := two_do T3.out q4 rfl
   obtain ⟨Z1', r, T4, hZ4, g4, hr4⟩ := te.ex
   have OB4 := hide te.ob
   have OL4 := hide te.ol
   have BT4 := hide T4
   have C4 := hide (blk_keepR C3.out g4 (fun y e => by have := LB.out y (.inl (hr4 y e)); omega))
   have LE4 := hide (show W3.heap.size ≤ W4.heap.size from g4.size)
   clear te q4 D3 T3 C3 T4 hZ4 g4 hr4
   have QC := hide (show ∀ (z : F1 voice = F2 voice) (hv' : c.v = voice), dkC (F1 c.v) n1 c = dkC (F2 c.v) n2 c from fun z hv' => by rw [hv', z]; exact dkC_32 _ c (by omega) (by omega))
   have A5 := hide (ans_new W4 (dkC (F1 c.v) n1 c) c.v (.slice a m q) (.slice a' m' q'))
   have GA := grown_alloc W4 (.cells (ansC (dkC (F1 c.v) n1 c) c.v (.slice a m q) (.slice a' m' q')).toArray 34) none
   have T5 := hide (BT4.out.keep GA)
   have C5 := hide (C4.out.keep GA)
   have OB5 := hide (OB4.out.keep GA)
   have OL5 := hide (OL4.out.keep GA)
   clear GA BT4 C4 OB4 OL4
   generalize dkC (F1 c.v) n1 c = en at *
   unfold ansV
   go_upto_region 8 with fail
   change Code.wp _ _ _ _ (W4.alloc (.cells (ansC en c.v (.slice a m q) (.slice a' m' q')).toArray 34))
   generalize W4.alloc (.cells (ansC en c.v (.slice a m q) (.slice a' m' q')).toArray 34) = W5 at *
   have LW4 := hide (show W4.heap.size < W5.heap.size from A5.out.lt)
   have LBA := hide (show bt < W4.heap.size from Nat.lt_of_lt_of_le LB3.out LE4.out)
   generalize W4.heap.size = ba at *
   have kc0 := BlkV.cell C5.out 0
   have kc1 := BlkV.cell C5.out 1
   have ka0 := BlkV.cell A5.out 0
   simp [clC] at kc0 kc1
   simp [ansC] at ka0
   have hcs : ((c.k == 1) = true ∧ (en == 0) = true) ∨ ((c.k == 1) = true ∧ (en == 0) = false) ∨ (c.k == 1) = false := by
    rcases (c.k == 1) with _ | _ <;> rcases (en == 0) with _ | _ <;> simp
   by_cases hcv : c.v = voice
   ·have hb10 : (c.v == voice) = true := by simp [hcv]
    have T6 := hide T5.out.swap
    have QC0 := hide (QC.out hv hcv)
    have HCV := hide hcv
    have HV := hide hv
    clear hcv hv
    rcases hcs with ⟨bk1, bk2⟩ | ⟨bk1, bk2⟩ | bk1
    all_goals
     go_upto_region 11 with fail
     go_wp2_with (first | refine wpList_load_v rfl 37 _ rfl bt 0 5 rfl 37 (clC c (.slice a1 m1 q1) (.slice a2 m2 q2)) C5.out _ Tryz.underlying37 rfl size5c (by simp [clC]) _ rfl ?_)
     refine (CA.out W5 T6.out.gr).mono ?_
     rintro x W6 ⟨x1', y1', z1', x2', y2', z2', rfl, ok6, _, _, g6⟩
     have T7 := hide (T6.out.keep g6)
     have A6 := hide (A5.out.keep g6)
     have OB6 := hide (OB5.out.keep g6)
     have OL6 := hide (OL5.out.keep g6)
     have D6 := hide (DO.out e F2 n2 Z2 c x1' y1' z1' x2' y2' z2' W6 T7.out.d1 T7.out.gr ok6)
     have LW6 := hide (show W3.heap.size ≤ W6.heap.size ∧ ba < W6.heap.size from ⟨Nat.le_trans LE4.out (Nat.le_trans (Nat.le_of_lt LW4.out) g6.size), A6.out.lt⟩)
     clear ok6 g6 CA DO A5 OB5 OL5 T5 T6
     unfold clV at D6 ⊢
     go_wp2_with fail
     refine D6.out.mono ?_
     rintro x W7 q7
     obtain ⟨f, fm, fq, f', fm', fq', rfl, te⟩ := two_do T7.out q7 QC0.out.symm
     obtain ⟨Z2', r, T8, hZ8, g8, hr8⟩ := te.ex
     have lt8 : ∀ y, r = some y → y < bt := fun y e => LB.out y (.inr (hr8 y e))
     have OB7 := te.ob
     have OL7 := te.ol
     have A7 := blk_keepR A6.out g8 (fun y e => by have := lt8 y e; have := LBA.out; omega)
     have OB8 := ownB_keepR OB6.out g8 (fun y e => by have := lt8 y e; have := LB3.out; omega)
     have OL8 := own_keepR OL6.out g8 (fun y e => by have := lt8 y e; have := LB3.out; omega)
     have GA := grown_alloc W7 (.cells (ansC (en) c.v (.slice f fm fq) (.slice f' fm' fq')).toArray 34) none
     have N8 := hide (ans_new W7 (en) c.v (.slice f fm fq) (.slice f' fm' fq'))
     have A8 := hide (A7.keep GA)
     have T9 := hide (T8.keep GA)
     have eF : F1 c.v = F2 c.v := by rw [HCV.out]; exact HV.out
     have SA := hide (topSameA_any (en) c.v a m q a' m' q' f fm fq f' fm' fq' (dkB (F2 c.v) c) (dkL (F2 c.v) c) _ (by rw [← eF]; exact (OB8.keep GA).byts) (by rw [← eF]; exact OB8.shp) (by rw [← eF]; exact (OL8.keep GA).ints) (OB7.keep GA).byts OB7.shp (OL7.keep GA).ints (Nat.le_trans (dkL_le _ _ (T7.out.d1.ok c.v)) (by omega)))
     have NX := hide (fun wr' (g : (W7.alloc (.cells (ansC (en) c.v (.slice f fm fq) (.slice f' fm' fq')).toArray 34)).grownBy wr' none) => (show LnR w d e voice (k + 1) wr' from ⟨_, _, _, _, _, _, (T9.out.keep g).swap, by rw [← HCV.out, dkF_same, dkF_same, eF]; exact dkO_32 _ _ (by omega) (by omega), Nat.le_trans (dkN_le _ _ _) (by omega), Nat.le_trans (dkN_le _ _ _) (by omega)⟩))
     clear q7 te T8 hZ8 g8 hr8 lt8 OB7 OL7 A7 OB8 OL8 GA D6 T7 A6 OB6 OL6 T9 eF QC QC0
     generalize dkB (F2 c.v) c = BB at *
     generalize dkL (F2 c.v) c = LL at *
     unfold ansV at SA ⊢
     go_upto_region 12 with fail
     change Code.wp _ _ _ _ (W7.alloc (.cells (ansC (en) c.v (.slice f fm fq) (.slice f' fm' fq')).toArray 34))
     generalize W7.alloc (.cells (ansC (en) c.v (.slice f fm fq) (.slice f' fm' fq')).toArray 34) = W8 at *
     generalize W7.heap.size = bz at *
     go_wp2_with (first | refine wpList_load_v rfl 34 _ rfl ba 0 4 rfl 34 (ansC en c.v (.slice a m q) (.slice a' m' q')) A8.out _ Tryz.underlying34 rfl size4a (by simp [ansC_len]) _ rfl ?_ | refine wpList_load_v rfl 34 _ rfl bz 0 4 rfl 34 (ansC en c.v (.slice f fm fq) (.slice f' fm' fq')) N8.out _ Tryz.underlying34 rfl size4a (by simp [ansC_len]) _ rfl ?_)
     refine SA.out.mono ?_
     rintro x W9 ⟨rfl, g9⟩
     have RL := hide (NX.out W9 g9)
     clear SA NX g9 A8 N8
     go_wp2_with fail
     go_roundw
     case rel => first | exact ⟨j + 1, k + 1, by go_num, by go_num, by omega, by omega, by omega, RL.out⟩ | exact ⟨j, k + 1, rfl, by go_num, by omega, by omega, by omega, RL.out⟩
     case measure => simp [intOf]; omega
   ·have hb10 : (c.v == voice) = false := beq_eq_false_iff_ne.2 hcv
    have RL := hide (show LnR w d e voice (k + 1) W5 from ⟨_, _, _, _, _, _, T5.out, by rw [dkF_other _ _ _ (fun q => hcv q.symm)]; exact hv, Nat.le_trans (dkN_le _ _ _) (by omega), by omega⟩)
    clear hcv hv QC A5 T5 C5 OB5 OL5 DO CA
    rcases hcs with ⟨bk1, bk2⟩ | ⟨bk1, bk2⟩ | bk1
    all_goals
     go_wp2_with fail
     go_roundw
     case rel => first | exact ⟨j + 1, k + 1, by go_num, by go_num, by omega, by omega, by omega, RL.out⟩ | exact ⟨j, k + 1, rfl, by go_num, by omega, by omega, by omega, RL.out⟩
     case measure => simp [intOf]; omega
  ·obtain ⟨F1, n1, Z1, F2, n2, Z2, tw, hv, hn1, hn2⟩ := hI.out
   have D9 := hide (fun wx (g : wr.grownBy wx none) => DO.out d F1 n1 Z1 ⟨9, 0, false, [], []⟩ none 0 0 none 0 0 wx (tw.d1.keep g) (grown_none tw.gr g) (nilOk wx 9 0 ⟨by omega, by omega⟩ ⟨by omega, by omega⟩ false))
   have E9 := hide (fun wx x w9 (g : wr.grownBy wx none) q => two_do (tw.keep g) (W1 := wx) (x := x) (W2 := w9) (c := ⟨9, 0, false, [], []⟩) (en := 4) q (by unfold dkC; rw [if_neg (by decide), if_neg (by decide)]))
   have GR := hide tw.gr
   have hj30 : (j : Int) ≤ 30 := by omega
   have F9 := hide (fun wx w9 (g : wr.grownBy wx none) a m q a' m' q' (t : TwoE w d e F1 n1 F2 n2 Z1 Z2 ⟨9, 0, false, [], []⟩ wx a m q a' m' q' w9) => (show w.grownBy w9 none from by obtain ⟨Z', r, t', _⟩ := t.ex; exact t'.gr))
   clear tw hv hn1 hn2 HT hI DO
   by_cases hk : (k : Int) < n
   ·have hk3 : ¬ (k : Int) < 30 := by omega
    clear hlt
    go_upto_region 14 with fail
    go_wp2_with fail
    refine (AL.out wr GR.out).mono ?_
    rintro x W1 ⟨rfl, g1⟩
    have D1 := hide (D9.out W1 g1)
    have E1 := hide (fun x w9 q => E9.out W1 x w9 g1 q)
    have F1' := hide (fun w9 a m q a' m' q' t => F9.out W1 w9 g1 a m q a' m' q' t)
    clear D9 E9 F9 g1 AL
    unfold clV at D1 b9
    go_wp2_with fail
    refine D1.out.mono ?_
    rintro x W2 q2
    obtain ⟨a, m, q, a', m', q', rfl, te⟩ := E1.out x W2 q2
    have FF := hide (F.out W2 (F1'.out W2 a m q a' m' q' te))
    have hfc := field_code 4 0 a m q a' m' q'
    clear te q2 E1 F1' D1 F
    unfold ansV
    go_wp2_with fail
    exact FF.out
   ·clear hlt
    go_upto_region 14 with fail
    go_wp2_with fail
    refine (AL.out wr GR.out).mono ?_
    rintro x W1 ⟨rfl, g1⟩
    have D1 := hide (D9.out W1 g1)
    have E1 := hide (fun x w9 q => E9.out W1 x w9 g1 q)
    have F1' := hide (fun w9 a m q a' m' q' t => F9.out W1 w9 g1 a m q a' m' q' t)
    clear D9 E9 F9 g1 AL
    unfold clV at D1 b9
    go_wp2_with fail
    refine D1.out.mono ?_
    rintro x W2 q2
    obtain ⟨a, m, q, a', m', q', rfl, te⟩ := E1.out x W2 q2
    have FF := hide (F.out W2 (F1'.out W2 a m q a' m' q' te))
    have hfc := field_code 4 0 a m q a' m' q'
    clear te q2 E1 F1' D1 F
    unfold ansV
    go_wp2_with fail
    exact FF.out
end Go.Proofs.YtdejpongekicdaaGreatDoor

/- CnpS -/
namespace Go.Proofs.YtdejpongekicdaaGreatDoor
open Go.RowKit
set_option linter.unusedVariables false
set_option linter.unusedSimpArgs false
set_option maxHeartbeats 2000000
theorem conWithin_any (x a b : Int) (w : World) : Calls Tryz.prog 76 #[.int .i64 x, .int .i64 a, .int .i64 b] w (Ans w (.bool (decide (a ≤ x ∧ x ≤ b)))) := by
 by_cases h1 : a ≤ x
 ·by_cases h2 : x ≤ b
  ·rw [decide_eq_true (show a ≤ x ∧ x ≤ b from ⟨h1, h2⟩)]
   go_enter Tryz.func76, Tryz.ntmps76
   go_wp2_with fail
   go_ret
   exact ⟨rfl, rfl⟩
  ·rw [decide_eq_false (show ¬ (a ≤ x ∧ x ≤ b) from fun h => h2 h.2)]
   go_enter Tryz.func76, Tryz.ntmps76
   go_wp2_with fail
   go_ret
   exact ⟨rfl, rfl⟩
 ·rw [decide_eq_false (show ¬ (a ≤ x ∧ x ≤ b) from fun h => h1 h.1)]
  go_enter Tryz.func76, Tryz.ntmps76
  go_wp2_with fail
  go_ret
  exact ⟨rfl, rfl⟩
theorem conStopped_any (x : Int) (w : World) : Calls Tryz.prog 235 #[.int .i64 x] w (Ans w (.int .i64 (c16 x))) := by
 have F := hide (show ∀ z, z = c16 x → Ans w (.int .i64 (c16 x)) (.returned (.int .i64 z)) w from fun z hz => ⟨by rw [hz], rfl⟩)
 generalize Ans w (.int .i64 (c16 x)) = T at *
 go_enter Tryz.func235, Tryz.ntmps235
 go_wp2_with fail
 all_goals (refine F.out _ ?_; unfold c16; (repeat' split) <;> omega)
theorem conScaled_any (x g : Int) (h1 : -4611686018427387904 ≤ x * g) (h2 : x * g ≤ 4611686018427387904) (w : World) : Calls Tryz.prog 236 #[.int .i64 x, .int .i64 g] w (Ans w (.int .i64 ((x * g + 8192) / 16384))) := by
 have F := hide (show Ans w (.int .i64 ((x * g + 8192) / 16384)) (.returned (.int .i64 ((x * g + 8192) / 16384))) w from ⟨rfl, rfl⟩)
 generalize Ans w (.int .i64 ((x * g + 8192) / 16384)) = T at *
 go_enter Tryz.func236, Tryz.ntmps236
 go_wp2_with fail
 exact F.out
end Go.Proofs.YtdejpongekicdaaGreatDoor

/- CnpA -/
namespace Go.Proofs.YtdejpongekicdaaGreatDoor
open Go.RowKit
set_option linter.unusedVariables false
set_option linter.unusedSimpArgs false
set_option maxHeartbeats 2000000
def betB (lo hi : Int) (l : List Int) : Bool := l.all fun x => decide (lo ≤ x) && decide (x ≤ hi)
theorem betB_iff (lo hi : Int) (l : List Int) : betB lo hi l = true ↔ ∀ i, i < l.length → lo ≤ nth l i ∧ nth l i ≤ hi := by
 unfold betB
 rw [List.all_eq_true]
 constructor
 ·intro h i hi'
  have := h l[i] (List.getElem_mem hi')
  simpa [nth, List.getD, hi'] using this
 ·intro h x hx
  obtain ⟨i, hi', rfl⟩ := List.getElem_of_mem hx
  have := h i hi'
  simpa [nth, List.getD, hi'] using this
theorem betB_refl (l : List Int) : betB (-31000) 31000 (prt l 0 8) = true ↔ reflB l = true := by
 rw [betB_iff, reflB_iff, prt_len]
 constructor
 ·intro h i hi; have := h i hi; rwa [prt_nth _ _ _ _ hi, Nat.zero_add] at this
 ·intro h i hi; rw [prt_nth _ _ _ _ hi, Nat.zero_add]; exact h i hi
theorem conAll_any (v : Value) (l : List Int) (lo hi : Int) (w : World) (h : Ints w v l) (hl : l.length ≤ 1000000000000000000) :
  Calls Tryz.prog 75 #[v, .int .i64 lo, .int .i64 hi] w (Ans w (.bool (betB lo hi l))) := by
 obtain ⟨ad, c, rfl, hc, hcell⟩ := h
 have Y := hide (fun (hh : ∀ i, i < l.length → lo ≤ nth l i ∧ nth l i ≤ hi) => (show Ans w (.bool (betB lo hi l)) (.returned (.bool true)) w from ⟨by rw [(betB_iff lo hi l).2 hh], rfl⟩))
 have N := hide (fun i (hi' : i < l.length) (hh : ¬ (lo ≤ nth l i ∧ nth l i ≤ hi)) => (show Ans w (.bool (betB lo hi l)) (.returned (.bool false)) w from ⟨by
  rcases hb : betB lo hi l with _ | _
  ·rfl
  ·exact absurd ((betB_iff lo hi l).1 hb i hi') hh, rfl⟩))
 generalize Ans w (.bool (betB lo hi l)) = T at *
 go_enter Tryz.func75, Tryz.ntmps75
 go_wp2_with fail
 go_loop [11] (fun i => ∃ k : Nat, i = .int .i64 k ∧ k ≤ l.length ∧ Hid (∀ i, i < k → lo ≤ nth l i ∧ nth l i ≤ hi)) (fun i => l.length - (intOf i).toNat)
 case atStart => exact ⟨0, rfl, Nat.zero_le _, fun i hi => by omega⟩
 case round =>
  obtain ⟨k, rfl, hk, hG⟩ := hrel
  by_cases hkl : k < l.length
  ·obtain ⟨a, rfl, hv⟩ := hcell (by omega)
   have hck := hv k hkl
   have NK := hide (N.out k hkl)
   have GK := hide (fun (hh : lo ≤ nth l k ∧ nth l k ≤ hi) => (show ∀ i, i < k + 1 → lo ≤ nth l i ∧ nth l i ≤ hi from fun i hi => by
    rcases Nat.lt_or_ge i k with g | g
    ·exact hG.out i g
    ·obtain rfl : i = k := by omega
     exact hh))
   clear hcell hv Y N hG
   generalize nth l k = z at *
   have kl1 : (k : Int) < l.length := by omega
   have ST := hide (conWithin_any z lo hi w)
   by_cases hz : lo ≤ z ∧ z ≤ hi
   ·have F := hide (GK.out hz)
    rw [decide_eq_true hz] at ST
    clear NK GK hz
    go_wp2_with fail
    refine ST.out.mono ?_
    rintro e w1 ⟨rfl, rfl⟩
    clear ST
    go_wp2_with fail
    go_round
    case rel => exact ⟨k + 1, by go_num, by omega, F.out⟩
    case measure => simp [intOf]; omega
   ·have F := hide (NK.out hz)
    rw [decide_eq_false hz] at ST
    clear NK GK hz
    go_wp2_with fail
    refine ST.out.mono ?_
    rintro e w1 ⟨rfl, rfl⟩
    clear ST
    go_wp2_with fail
    exact F.out
  ·obtain rfl : k = l.length := by omega
   have F := hide (Y.out hG.out)
   clear hcell Y N hG
   go_wp2_with fail
   exact F.out
set_option maxRecDepth 100000 in
theorem conGood_any (l : List Int) (s : Bool) (hl : l.length = 101) (w : World) : Calls Tryz.prog 38 #[memV l s] w (AnsC w (.bool (goodM l))) := by
 have B0 := hide (BlkM.new w l s)
 have G0 := hide (grown_alloc w (.cells (memC l s).toArray 53) none)
 have HL := hide hl
 have PT := hide (goodM_parts l)
 obtain ⟨T, hT⟩ : ∃ T : Ending → World → Prop, AnsC w (.bool (goodM l)) = T := ⟨_, rfl⟩
 rw [hT]
 have FN := hide (fun (h : ¬ goodM l = true) w' (g : w.grownBy w' none) => (show T (.returned (.bool false)) w' from by rw [← hT]; exact ⟨by rw [show goodM l = false by simpa using h], g⟩))
 have FY := hide (fun (h : goodM l = true) w' (g : w.grownBy w' none) => (show T (.returned (.bool true)) w' from by rw [← hT]; exact ⟨by rw [h], g⟩))
 clear hT hl
 unfold memV
 generalize memC l s = cs at *
 go_enter Tryz.func38, Tryz.ntmps38
 go_upto_region 1 with fail
 generalize w.alloc (.cells cs.toArray 53) = W0 at *
 have c96 := B0.out.cell 96 (by rw [HL.out]; omega)
 have c97 := B0.out.cell 97 (by rw [HL.out]; omega)
 have c98 := B0.out.cell 98 (by rw [HL.out]; omega)
 have c99 := B0.out.cell 99 (by rw [HL.out]; omega)
 have c100 := B0.out.cell 100 (by rw [HL.out]; omega)
 have IR := hide (B0.out.ints 0 8 8 (by rw [HL.out]; omega) (by omega))
 have IP := hide (B0.out.ints 8 8 8 (by rw [HL.out]; omega) (by omega))
 have IE := hide (B0.out.ints 16 80 80 (by rw [HL.out]; omega) (by omega))
 clear B0
 go_wp2_with fail
 refine (conAll_any _ (prt l 0 8) (-31000) 31000 _ IR.out (by rw [prt_len]; omega)).mono ?_
 rintro e w0 ⟨rfl, rfl⟩
 rcases hb0 : betB (-31000) 31000 (prt l 0 8) with _ | _
 ·have F := hide (FN.out (fun q => by have : betB (-31000) 31000 (prt l 0 8) = true := (betB_refl l).2 ((PT.out.1 q).1); rw [hb0] at this; cases this) _ G0.out)
  clear FN FY
  go_wp2_with fail
  exact F.out
 go_wp2_with fail
 refine (conAll_any _ (prt l 8 8) (-32768) 32767 _ IP.out (by rw [prt_len]; omega)).mono ?_
 rintro e w1 ⟨rfl, rfl⟩
 rcases hb1 : betB (-32768) 32767 (prt l 8 8) with _ | _
 ·have F := hide (FN.out (fun q => by have : betB (-32768) 32767 (prt l 8 8) = true := (PT.out.1 q).2.1; rw [hb1] at this; cases this) _ G0.out)
  clear FN FY
  go_wp2_with fail
  exact F.out
 go_wp2_with fail
 refine (conAll_any _ (prt l 16 80) (-32768) 32767 _ IE.out (by rw [prt_len]; omega)).mono ?_
 rintro e w2 ⟨rfl, rfl⟩
 rcases hb2 : betB (-32768) 32767 (prt l 16 80) with _ | _
 ·have F := hide (FN.out (fun q => by have : betB (-32768) 32767 (prt l 16 80) = true := (PT.out.1 q).2.2.1; rw [hb2] at this; cases this) _ G0.out)
  clear FN FY
  go_wp2_with fail
  exact F.out
 go_wp2_with fail
 have WI3 := hide (fun u => conWithin_any (nth l 96) 0 32767 u)
 by_cases hb3 : 0 ≤ nth l 96 ∧ nth l 96 ≤ 32767
 rotate_left
 ·rw [decide_eq_false hb3] at WI3
  refine (WI3.out _).mono ?_
  rintro e w3 ⟨rfl, rfl⟩
  have F := hide (FN.out (fun q => hb3 (PT.out.1 q).2.2.2.1) _ G0.out)
  clear FN FY hb3 WI3
  go_wp2_with fail
  exact F.out
 rw [decide_eq_true hb3] at WI3
 refine (WI3.out _).mono ?_
 rintro e w3 ⟨rfl, rfl⟩
 have HB3 := hide hb3
 clear hb3 WI3
 go_wp2_with fail
 have WI4 := hide (fun u => conWithin_any (nth l 97) 0 18022 u)
 by_cases hb4 : 0 ≤ nth l 97 ∧ nth l 97 ≤ 18022
 rotate_left
 ·rw [decide_eq_false hb4] at WI4
  refine (WI4.out _).mono ?_
  rintro e w4 ⟨rfl, rfl⟩
  have F := hide (FN.out (fun q => hb4 (PT.out.1 q).2.2.2.2.1) _ G0.out)
  clear FN FY hb4 WI4
  go_wp2_with fail
  exact F.out
 rw [decide_eq_true hb4] at WI4
 refine (WI4.out _).mono ?_
 rintro e w4 ⟨rfl, rfl⟩
 have HB4 := hide hb4
 clear hb4 WI4
 go_wp2_with fail
 have WI5 := hide (fun u => conWithin_any (nth l 98) 20 79 u)
 by_cases hb5 : 20 ≤ nth l 98 ∧ nth l 98 ≤ 79
 rotate_left
 ·rw [decide_eq_false hb5] at WI5
  refine (WI5.out _).mono ?_
  rintro e w5 ⟨rfl, rfl⟩
  have F := hide (FN.out (fun q => hb5 (PT.out.1 q).2.2.2.2.2.1) _ G0.out)
  clear FN FY hb5 WI5
  go_wp2_with fail
  exact F.out
 rw [decide_eq_true hb5] at WI5
 refine (WI5.out _).mono ?_
 rintro e w5 ⟨rfl, rfl⟩
 have HB5 := hide hb5
 clear hb5 WI5
 go_wp2_with fail
 have WI6 := hide (fun u => conWithin_any (nth l 99) 0 6 u)
 by_cases hb6 : 0 ≤ nth l 99 ∧ nth l 99 ≤ 6
 rotate_left
 ·rw [decide_eq_false hb6] at WI6
  refine (WI6.out _).mono ?_
  rintro e w6 ⟨rfl, rfl⟩
  have F := hide (FN.out (fun q => hb6 (PT.out.1 q).2.2.2.2.2.2.1) _ G0.out)
  clear FN FY hb6 WI6
  go_wp2_with fail
  exact F.out
 rw [decide_eq_true hb6] at WI6
 refine (WI6.out _).mono ?_
 rintro e w6 ⟨rfl, rfl⟩
 have HB6 := hide hb6
 clear hb6 WI6
 go_wp2_with fail
 have WI7 := hide (fun u => conWithin_any (nth l 100) 0 65535 u)
 by_cases hb7 : 0 ≤ nth l 100 ∧ nth l 100 ≤ 65535
 rotate_left
 ·rw [decide_eq_false hb7] at WI7
  refine (WI7.out _).mono ?_
  rintro e w7 ⟨rfl, rfl⟩
  have F := hide (FN.out (fun q => hb7 (PT.out.1 q).2.2.2.2.2.2.2) _ G0.out)
  clear FN FY hb7 WI7
  go_wp2_with fail
  exact F.out
 rw [decide_eq_true hb7] at WI7
 refine (WI7.out _).mono ?_
 rintro e w7 ⟨rfl, rfl⟩
 have HB7 := hide hb7
 clear hb7 WI7
 have F := hide (FY.out (PT.out.2 ⟨(betB_refl l).1 hb0, hb1, hb2, HB3.out, HB4.out, HB5.out, HB6.out, HB7.out⟩) _ G0.out)
 clear FN FY
 go_wp2_with fail
 exact F.out
theorem run_build_freshP (w : World) : Sem.run Tryz.prog (Instr.build 53 #[(5, .int .i64 20), (7, .int .i64 21845)]) w = .ok (memV freL false) w := by kernel_rfl
theorem wpList_build_freshP {ops : Array Oper} {rest : List Oper} {op : Oper} {a : Act} {w : World} {Q : Exit → Act → World → Prop} (hgd : op.guard = none) (x y : Operand) (ho : op.op = .build 53 #[(5, x), (7, y)]) (hx : a.eval x = .int .i64 20) (hy : a.eval y = .int .i64 21845)
  (k : wpList Tryz.prog ops Q rest (a.put op.dst (memV freL false)) w) : wpList Tryz.prog ops Q (op :: rest) a w := by
 refine wpList_plain hgd fun _ hK => ?_
 unfold Oper.wp execOp
 have e : (#[(5, x), (7, y)] : Array (Nat × Operand)).map (fun (i, x) => (i, a.eval x)) = #[(5, .int .i64 20), (7, .int .i64 21845)] := by simp [hx, hy]
 simp only [ho, e, Sem.run_bind, run_build_freshP, Result.andThen_ok, Sem.run_pure]
 exact hK _ _ k
theorem conFresh_any (w : World) : Calls Tryz.prog 18 #[] w (AnsC w (memV freL false)) := by
 have B0 := hide (BlkM.new w (zeros 101) false)
 have PU := B0.out.putAll (m := freL) (t := false) (zeros_len 101) freL_len
 have PB := hide PU.1
 have PG := hide (grown_own (grown_alloc w (.cells (memC (zeros 101) false).toArray 53) none) PU.2 (Nat.le_refl _))
 have S1 := hide (show (memC freL false).length = 102 from memC_len freL_len false)
 have S0 := hide (show (memC (zeros 101) false).length = 102 from memC_len (zeros_len 101) false)
 have O1 := hide (memC_one freL false)
 have hz := zero_mem
 have F := hide (show AnsC w (memV freL false) (.returned (memV freL false)) (putV (w.alloc (.cells (memC (zeros 101) false).toArray 53)) w.heap.size 0 (memC freL false)) from ⟨rfl, PG.out⟩)
 clear PU PG
 generalize AnsC w (memV freL false) = T at *
 have BF := hide (fun ops rest op a w Q => @wpList_build_freshP ops rest op a w Q)
 unfold memV at hz F BF
 unfold BlkM at B0 PB
 generalize memC (zeros 101) false = Z at *
 generalize memC freL false = M at *
 go_enter Tryz.func18, Tryz.ntmps18
 go_wp2_with (first | refine BF.out _ _ _ _ _ _ rfl _ _ rfl rfl rfl ?_ | refine wpList_store_v rfl 53 _ _ rfl w.heap.size 0 53 Z M rfl rfl B0.out (by rw [S0.out, S1.out]; omega) (by rw [S1.out]; exact size102) O1.out ?_)
 have hlv := loadVar_v PB.out _ Tryz.underlying53 rfl (by rw [S1.out]; exact size102)
 refine bodyPost_ret (v := .agg M.toArray) ?_ rfl F.out
 simp [results, Tryz.results18, asAddr, Act.put, hlv]
end Go.Proofs.YtdejpongekicdaaGreatDoor

/- CodA -/
namespace Go.Proofs.YtdejpongekicdaaGreatDoor
open Go.RowKit
set_option linter.unusedVariables false
set_option linter.unusedSimpArgs false
set_option maxHeartbeats 2000000
set_option maxRecDepth 100000 in
theorem codSpoken_any (A l x : List Int) (s : Bool) (hA : A.length = 9) (hl : l.length = 101) (v : Value) (w : World) (h : Ints w v x) (hsh : Shp v x) (hx : x.length * 8 ≤ 140737488351232) :
  Calls Tryz.prog 81 #[memV l s, .agg (arrI A), v] w (MmL w (souM A l x) s (souL A l x)) := by
 have Q0 := hide (QuM.new w 95 A l s)
 have MK := hide (fun wr (g : w.grownBy wr none) => make_any A (prt l 8 8) hA (prt_len _ _ _) v x wr (Ints_keep h g) hsh hx)
 rw [show mkL A (prt l 8 8) x = souL A l x from rfl] at MK
 have F := hide (show ∀ v' w', Own w.heap.size w' v' (souL A l x) → w.grownBy w' none → MmL w (souM A l x) s (souL A l x) (.returned (.tuple #[memV (ovr l 8 (mkP A (prt l 8 8) x)) s, v'])) w' from fun v' w' o q => ⟨v', rfl, o, q⟩)
 have PL := hide (mkP_len A (prt l 8 8) x)
 have HA := hide hA
 have HL := hide hl
 have CL := hide (memC_len hl s)
 have P8 := hide (BlkM.part (l := l) s 8 8 (by omega))
 have A8 := hide (show ((intsV A).drop 0).take 9 = intsV A from by rw [List.drop_zero, List.take_of_length_le (by rw [intsV_len, hA]; omega)])
 have ZL := hide (memC_len (zeros_len 101) false)
 have hz := zero_mem
 clear h hsh hx hA hl
 generalize MmL w (souM A l x) s (souL A l x) = T at *
 generalize fiE A (prt l 8 8) x = fe at *
 generalize mkP A (prt l 8 8) x = PP at *
 generalize souL A l x = LX at *
 unfold memV at F hz ⊢
 go_enter Tryz.func81, Tryz.ntmps81
 go_upto_region 1 with fail
 generalize ((w.alloc (.cells (memC l s).toArray 53)).alloc (.cells (arrI A) 95)).alloc (.cells (memC (zeros 101) false).toArray 53) = W0 at *
 clear hz
 go_wp2_with (first | refine wpList_load_v rfl 95 _ rfl (w.heap.size + 1) 0 9 rfl 95 (intsV A) Q0.out.2.1 _ Tryz.underlying95 rfl size9' (by rw [intsV_len, HA.out]; omega) _ A8.out ?_ | refine wpList_load_v rfl 50 _ rfl w.heap.size 8 8 rfl 53 (memC l s) Q0.out.1 _ Tryz.underlying50 rfl size8 (by rw [CL.out]; omega) _ P8.out ?_)
 refine (MK.out W0 Q0.out.2.2.2).mono ?_
 rintro e W1 ⟨v1, rfl, o1, g1⟩
 obtain ⟨b1, b2, b3⟩ := fresh_arr W1 50 8 PP PL.out
 have B1 := hide b1
 have B2 := hide b2
 have Q2 := hide ((Q0.out.keep g1).keep b3)
 have N1 := hide (show w.heap.size + 1 + 1 + 1 ≤ W1.heap.size from (Q0.out.keep g1).2.2.1.lt)
 have O2 := hide ((o1.base (b' := w.heap.size + 1 + 1 + 1) (show w.heap.size + 1 + 1 + 1 ≤ W0.heap.size from Q0.out.2.2.1.lt)).keep b3)
 rw [z8'] at B1 B2 Q2 O2
 clear g1 o1 b1 b2 b3 MK Q0 A8 P8
 go_upto_region 2 with (first | refine wpList_store_arr rfl 50 _ _ rfl _ (zeros 8) PP rfl rfl B1.out (by rw [PL.out, zeros_len]) (by rw [zeros_len]; exact size8) ?_)
 (try simp only [Act.put])
 clear B1
 generalize putArr _ W1.heap.size PP = W2 at *
 generalize W1.heap.size = bp at *
 have PU := Q2.out.put 8 PP (by rw [PL.out, HL.out]; omega)
 have Q3 := hide PU.1
 have O3 := hide (O2.out.keepLt PU.2 (by omega))
 have I_ := hide (intsV_one PP)
 have IL := hide (show (intsV PP).length = 8 by rw [intsV_len]; exact PL.out)
 clear PU O2
 go_upto_region 3 with (first | refine wpList_load_arr rfl 50 _ rfl _ rfl _ B2.out _ Tryz.underlying50 rfl (by rw [PL.out]; exact size8) ?_ | refine wpList_store_v rfl 50 _ _ rfl w.heap.size 8 53 (memC l s) (intsV PP) rfl rfl Q2.out.1 (by rw [IL.out, CL.out]; omega) (by rw [IL.out]; exact size8) I_.out ?_)
 (try simp only [Act.put])
 clear Q2 B2 I_ IL
 generalize putV W2 w.heap.size 8 (intsV PP) = W3 at *
 have L5 := hide (show (ovr l 8 PP).length = 101 by rw [ovr_len]; exact HL.out)
 generalize ovr l 8 PP = m at *
 have A5 := hide (BlkM.all s L5.out)
 have C5 := hide (memC_len L5.out s)
 have ON := hide (memC_one m s)
 have PB := hide (Q3.out.fin m s L5.out)
 have O6 := hide (O3.out.keepLt PB.out.2.2 (by omega))
 have FF := hide (F.out _ _ (O6.out.base (b' := w.heap.size) (by omega)) PB.out.2.1)
 clear F O3 O6
 go_wp2_with (first | refine wpList_load_v rfl 53 _ rfl w.heap.size 0 102 rfl 53 (memC m s) Q3.out.1 _ Tryz.underlying53 rfl size102 (by rw [C5.out]; omega) _ A5.out ?_ | refine wpList_store_v rfl 53 _ _ rfl (w.heap.size + 1 + 1) 0 53 (memC (zeros 101) false) (memC m s) rfl rfl Q3.out.2.2.1 (by rw [ZL.out, C5.out]; omega) (by rw [C5.out]; exact size102) ON.out ?_)
 have hlv := loadVar_v PB.out.1 _ Tryz.underlying53 rfl (by rw [C5.out]; exact size102)
 refine bodyPost_ret (v := .tuple #[.agg (memC m s).toArray, _]) ?_ rfl FF.out
 simp [results, Tryz.results81, asAddr, Act.put, hlv]
set_option maxRecDepth 100000 in
theorem codAhead_any (l : List Int) (s : Bool) (k : Int) (hl : l.length = 101) (w : World) :
  Calls Tryz.prog 65 #[memV l s, .int .i64 k] w (AnsC w (memV (if k = 1 then freL else l) (if k = 1 then false else s))) := by
 have M0 := hide (MmS.new w l s)
 have FR := hide (fun u => conFresh_any u)
 have FL := hide freL_len
 have HL := hide hl
 have CL := hide (memC_len hl s)
 have AL := hide (BlkM.all s hl)
 have ZL := hide (memC_len (zeros_len 101) false)
 have hz := zero_mem
 clear hl
 by_cases hk : k = 1
 ·have hk1 : (k == 1) = true := beq_iff_eq.2 hk
  rw [if_pos hk, if_pos hk]
  have F := hide (show ∀ w', w.grownBy w' none → AnsC w (memV freL false) (.returned (memV freL false)) w' from fun w' q => ⟨rfl, q⟩)
  clear hk
  generalize AnsC w (memV freL false) = T at *
  generalize freL = fl at *
  unfold AnsC memV at FR
  unfold memV at F hz ⊢
  go_enter Tryz.func65, Tryz.ntmps65
  go_upto_region 1 with fail
  generalize (w.alloc (.cells (memC l s).toArray 53)).alloc (.cells (memC (zeros 101) false).toArray 53) = W0 at *
  clear hz
  go_wp2_with fail
  refine (FR.out W0).mono ?_
  rintro e W1 ⟨rfl, g1⟩
  have M1 := hide (M0.out.keep g1)
  have PB := hide (M1.out.fin fl false FL.out)
  have FF := hide (F.out _ PB.out.2)
  have CF := hide (memC_len FL.out false)
  have ON := hide (memC_one fl false)
  clear M0 g1 FR F
  go_wp2_with (first | refine wpList_store_v rfl 53 _ _ rfl (w.heap.size + 1) 0 53 (memC (zeros 101) false) (memC fl false) rfl rfl M1.out.2.1 (by rw [ZL.out, CF.out]; omega) (by rw [CF.out]; exact size102) ON.out ?_)
  have hlv := loadVar_v PB.out.1 _ Tryz.underlying53 rfl (by rw [CF.out]; exact size102)
  refine bodyPost_ret (v := .agg (memC fl false).toArray) ?_ rfl FF.out
  simp [results, Tryz.results65, asAddr, Act.put, hlv]
 ·have hk1 : (k == 1) = false := beq_eq_false_iff_ne.2 hk
  rw [if_neg hk, if_neg hk]
  have F := hide (show ∀ w', w.grownBy w' none → AnsC w (memV l s) (.returned (memV l s)) w' from fun w' q => ⟨rfl, q⟩)
  clear hk FR FL
  generalize AnsC w (memV l s) = T at *
  unfold memV at F hz ⊢
  go_enter Tryz.func65, Tryz.ntmps65
  go_upto_region 1 with fail
  generalize (w.alloc (.cells (memC l s).toArray 53)).alloc (.cells (memC (zeros 101) false).toArray 53) = W0 at *
  clear hz
  have PB := hide (M0.out.fin l s HL.out)
  have FF := hide (F.out _ PB.out.2)
  have ON := hide (memC_one l s)
  clear F
  go_wp2_with (first | refine wpList_load_v rfl 53 _ rfl w.heap.size 0 102 rfl 53 (memC l s) M0.out.1 _ Tryz.underlying53 rfl size102 (by rw [CL.out]; omega) _ AL.out ?_ | refine wpList_store_v rfl 53 _ _ rfl (w.heap.size + 1) 0 53 (memC (zeros 101) false) (memC l s) rfl rfl M0.out.2.1 (by rw [ZL.out, CL.out]; omega) (by rw [CL.out]; exact size102) ON.out ?_)
  have hlv := loadVar_v PB.out.1 _ Tryz.underlying53 rfl (by rw [CL.out]; exact size102)
  refine bodyPost_ret (v := .agg (memC l s).toArray) ?_ rfl FF.out
  simp [results, Tryz.results65, asAddr, Act.put, hlv]
end Go.Proofs.YtdejpongekicdaaGreatDoor

/- CodMath -/
namespace Go.Proofs.YtdejpongekicdaaGreatDoor
open Go.RowKit
set_option linter.unusedVariables false
set_option linter.unusedSimpArgs false
theorem list_nth {a b : List Int} (h : a.length = b.length) (k : ∀ i, i < a.length → nth a i = nth b i) : a = b := by
 have e : a = tab b.length (nth b) := tab_ext h (fun i hi => k i (by omega))
 have f : b = tab b.length (nth b) := tab_ext rfl (fun i _ => rfl)
 rw [e]; exact f.symm
theorem prt_ovr (l M : List Int) (o p n : Nat) (hl : p + n ≤ l.length) (h : p + n ≤ o ∨ o + M.length ≤ p) : prt (ovr l o M) p n = prt l p n := by
 refine tab_ext (prt_len _ _ _) (fun i hi => ?_)
 rw [prt_nth _ _ _ _ hi, ovr_nth _ _ _ _ (by omega), if_neg (by omega)]
theorem prt_ovr_in (l M : List Int) (o : Nat) (hl : o + M.length ≤ l.length) : prt (ovr l o M) o M.length = M := by
 refine (tab_ext rfl (fun i hi => ?_)).symm
 rw [ovr_nth _ _ _ _ (by omega), if_pos (by omega), Nat.add_sub_cancel_left]
theorem ovr_set (l M : List Int) (o k : Nat) (z : Int) (hk : k < l.length) (h : k < o ∨ o + M.length ≤ k) : ovr (l.set k z) o M = (ovr l o M).set k z := by
 refine list_nth (by rw [ovr_len, List.length_set, List.length_set, ovr_len]) (fun i hi => ?_)
 rw [ovr_len, List.length_set] at hi
 rw [ovr_nth _ _ _ _ (by rw [List.length_set]; exact hi), setN _ _ _ hk, setN _ _ _ (by rw [ovr_len]; exact hk), ovr_nth _ _ _ _ hi]
 by_cases e : i = k
 ·rw [if_pos e, if_neg (by omega), if_pos e]
 ·rw [if_neg e, if_neg e]
theorem souM_refl (A m x : List Int) (hm : m.length = 101) : prt (souM A m x) 0 8 = prt m 0 8 := by
 unfold souM
 exact prt_ovr _ _ _ _ _ (by omega) (.inl (by omega))
theorem spM_refl (l u : List Int) (hl : l.length = 101) : prt (spM l u) 0 8 = prt l 0 8 := by
 unfold spM
 rw [prt_set _ _ _ _ _ (by rw [List.length_set, List.length_set, ovr_len]; omega) (.inr (by omega)), prt_set _ _ _ _ _ (by rw [List.length_set, ovr_len]; omega) (.inr (by omega)), prt_set _ _ _ _ _ (by rw [ovr_len]; omega) (.inr (by omega))]
 exact prt_ovr _ _ _ _ _ (by omega) (.inl (by omega))
theorem siM_refl (l : List Int) (hl : l.length = 101) (hg : goodM l = true) : prt (siM l) 0 8 = prt l 0 8 := by
 have e : siM l = memT l (nth l 99) (sdN (nth l 100) 40) (kpA (prt l 16 80) (siX l)) := if_pos hg
 rw [e]
 unfold memT
 rw [prt_ovr _ _ _ _ _ (by rw [List.length_set, List.length_set]; omega) (.inl (by omega)), prt_set _ _ _ _ _ (by rw [List.length_set]; omega) (.inr (by omega)), prt_set _ _ _ _ _ (by omega) (.inr (by omega))]
theorem plP_refl (sil : Bool) (l u : List Int) (hl : l.length = 101) (hg : goodM l = true) : prt (plP sil l u) 0 8 = prt l 0 8 := by
 unfold plP
 split
 ·exact siM_refl l hl hg
 ·exact spM_refl l u hl
theorem plM_refl (sil : Bool) {now p l : List Int} (hl : l.length = 101) (hg : goodM l = true) (hn : now.length = 8) (sn : steadyB now = true) (hp : gudP p = true) : ∀ n, n ≤ 2 → prt (plM sil now l p n) 0 8 = prt l 0 8
 | 0, _ => rfl
 | n + 1, h => by
  have g := plM_good sil hl hg hn sn hp n (by omega)
  have len := plM_len sil now p hl n
  show prt (souM _ (plP sil (plM sil now l p n) (subL p n)) _) 0 8 = _
  rw [souM_refl _ _ _ (plP_len sil len _), plP_refl sil _ _ len g]
  exact plM_refl sil hl hg hn sn hp n (by omega)
def hfM (A : List Int) (sil : Bool) (l u : List Int) : List Int := souM A (plP sil l u) (plX sil l u)
def hfL (A : List Int) (sil : Bool) (l u : List Int) : List Int := souL A (plP sil l u) (plX sil l u)
theorem hfL_le (A : List Int) (sil : Bool) {l u : List Int} (hg : goodM l = true) (h : GudS u) : (hfL A sil l u).length ≤ 40 := by
 have := mkL_le A (prt (plP sil l u) 8 8) (plX sil l u)
 rw [(plX_right sil hg h).1] at this
 exact this
theorem plM_half (sil : Bool) {now p l : List Int} (hl : l.length = 101) (hg : goodM l = true) (hn : now.length = 8) (sn : steadyB now = true) (hp : gudP p = true) (n : Nat) (h : n < 2) : hfM (prdP (prt l 0 8) now n) sil (plM sil now l p n) (subL p n) = plM sil now l p (n + 1) := by
 show _ = souM (prdP (prt (plP sil (plM sil now l p n) (subL p n)) 0 8) now n) _ _
 rw [plP_refl sil _ _ (plM_len sil now p hl n) (plM_good sil hl hg hn sn hp n (by omega)), plM_refl sil hl hg hn sn hp n (by omega)]
 rfl
theorem plO_half (sil : Bool) {now p l : List Int} (hl : l.length = 101) (hg : goodM l = true) (hn : now.length = 8) (sn : steadyB now = true) (hp : gudP p = true) (n : Nat) (h : n < 2) : plO sil now l p n ++ hfL (prdP (prt l 0 8) now n) sil (plM sil now l p n) (subL p n) = plO sil now l p (n + 1) := by
 show _ = plO sil now l p n ++ souL (prdP (prt (plP sil (plM sil now l p n) (subL p n)) 0 8) now n) _ _
 rw [plP_refl sil _ _ (plM_len sil now p hl n) (plM_good sil hl hg hn sn hp n (by omega)), plM_refl sil hl hg hn sn hp n (by omega)]
 rfl
theorem enM_refl (now x : List Int) {m : List Int} (hm : m.length = 101) : ∀ k, prt (enM now m x k) 0 8 = prt m 0 8
 | 0 => rfl
 | k + 1 => by
  rw [enM_step, souM_refl _ _ _ (by rw [spM_len]; exact enM_len now x hm k), spM_refl _ _ (enM_len now x hm k)]
  exact enM_refl now x hm k
theorem enA_eq (now x : List Int) {m : List Int} (hm : m.length = 101) (k : Nat) : enA now m x k = prdP (prt m 0 8) now k := by
 unfold enA
 rw [enM_refl now x hm k]
theorem enM_half (now m x : List Int) (hm : m.length = 101) (k : Nat) : hfM (prdP (prt m 0 8) now k) false (enM now m x k) (enU now m x k) = enM now m x (k + 1) := by
 rw [enM_step, enA_eq now x hm k]
 unfold hfM
 rw [plP_f, plX_f]
theorem spM_way (l u : List Int) (hl : l.length = 101) : ovr (((l.set 98 (20 + nth u 0)).set 97 (spG u)).set 96 (spZ u)) 16 (kpL (prt l 16 80) (spX l u)) = spM l u := by
 have k := kpL_len (prt l 16 80) (spX l u)
 rw [ovr_set _ _ _ _ _ (by rw [List.length_set, List.length_set]; omega) (.inr (by omega)), ovr_set _ _ _ _ _ (by rw [List.length_set]; omega) (.inr (by omega)), ovr_set _ _ _ _ _ (by omega) (.inr (by omega))]
 rfl
def prL (was now : List Int) : Nat → List Int
 | 0 => zeros 18
 | k + 1 => ovr (prL was now k) (9 * k) (prdP was now k)
theorem prL_len (was now : List Int) : ∀ k, (prL was now k).length = 18
 | 0 => zeros_len 18
 | k + 1 => by
  show (ovr _ _ _).length = 18
  rw [ovr_len]; exact prL_len was now k
theorem prdP_len (was now : List Int) (k : Nat) : (prdP was now k).length = 9 := by
 unfold prdP
 split <;> exact dirL_len _
theorem prL_part (was now : List Int) (k : Nat) (h : k < 2) : prt (prL was now 2) (9 * k) 9 = prdP was now k := by
 have l0 := prdP_len was now 0
 have l1 := prdP_len was now 1
 obtain rfl | rfl : k = 0 ∨ k = 1 := by omega
 ·show prt (ovr (ovr (zeros 18) 0 (prdP was now 0)) 9 (prdP was now 1)) 0 9 = _
  rw [prt_ovr _ _ _ _ _ (by rw [ovr_len, zeros_len]; omega) (.inl (by omega))]
  have := prt_ovr_in (zeros 18) (prdP was now 0) 0 (by rw [l0, zeros_len]; omega)
  rw [l0] at this
  exact this
 ·show prt (ovr (ovr (zeros 18) 0 (prdP was now 0)) 9 (prdP was now 1)) 9 9 = _
  have := prt_ovr_in (ovr (zeros 18) 0 (prdP was now 0)) (prdP was now 1) 9 (by rw [l1, ovr_len, zeros_len]; omega)
  rw [l1] at this
  exact this
def lesL (a b : List Int) : List Int := tab a.length (fun i => c16 (c16 (nth a i) - c16 (nth b i)))
def louL (a : List Int) (g : Int) : List Int := tab a.length (fun i => c16 ((nth a i * g + 8192) / 16384))
theorem right_nth {l : List Int} (h : rightB l = true) (i : Nat) : -32768 ≤ nth l i ∧ nth l i ≤ 32767 := by
 by_cases hi : i < l.length
 ·exact (rightB_iff l).1 h i hi
 ·rw [getD_out _ _ (by omega)]; omega
theorem lesL_right {a b : List Int} (ha : rightB a = true) (hb : rightB b = true) : lesL a b = tab a.length (fun i => c16 (nth a i - nth b i)) := by
 unfold lesL
 exact tab_congr _ _ _ (fun i _ => by rw [c16_id _ (right_nth ha i).1 (right_nth ha i).2, c16_id _ (right_nth hb i).1 (right_nth hb i).2])
theorem louL_len (a : List Int) (g : Int) : (louL a g).length = a.length := tab_len _ _
theorem louL_right (a : List Int) (g : Int) : rightB (louL a g) = true := c16_right _ _
theorem chT_les {m a x : List Int} (hg : goodM m = true) (hA : WideP a) (hx : x.length = 40) (rx : rightB x = true) : lesL x (chZ m a) = chT m a x := by
 rw [lesL_right rx (chZ_ok hg hA).2, hx]
 rfl
theorem chU_les {m a : List Int} (x : List Int) (hg : goodM m = true) (hA : WideP a) : lesL (chT m a x) (louL (chV m a x) (gaV (chG m a x))) = chU m a x := by
 rw [lesL_right (chT_ok m a x).2 (louL_right _ _), (chT_ok m a x).1]
 unfold chU
 refine tab_congr _ _ _ (fun i hi => ?_)
 unfold chUN louL
 rw [tab_nth _ _ _ (by rw [(chV_ok x hg hA).1]; exact hi)]
end Go.Proofs.YtdejpongekicdaaGreatDoor

/- CodB -/
namespace Go.Proofs.YtdejpongekicdaaGreatDoor
open Go.RowKit
set_option linter.unusedVariables false
set_option linter.unusedSimpArgs false
set_option maxHeartbeats 2000000
def LstE (w : World) (L : List Int) (e : Ending) (w' : World) : Prop := ∃ v', e = .returned v' ∧ Own w.heap.size w' v' L ∧ w.grownBy w' none
theorem ownC_any {w : World} {b base : Nat} {rs : List Int} (h : Blk w b 3 rs) (hb : base ≤ b) (hl : rs.length ≤ 35184372088832) : Own base w (.slice (some ⟨b, 0, none⟩) rs.length rs.length) rs :=
 ⟨by simp, .inr ⟨b, rs.length, arrI rs, rfl, hb, h, Nat.le_refl _, by unfold maxLen; omega, by simp [arrI], by simp [arrI, List.take_of_length_le]⟩⟩
theorem zPrd : (Tryz.prog.info? 113).bind (·.zero) = some (.agg (arrI (zeros 18))) := by kernel_rfl
theorem size18 : (Tryz.prog.info? 113).map (·.size) = some 18 := by kernel_rfl
theorem laid4C (w : World) (T1 T2 T3 T4 : TypeId) (a b c d : List Int) : Blk ((((w.alloc (.cells (arrI a) T1)).alloc (.cells (arrI b) T2)).alloc (.cells (arrI c) T3)).alloc (.cells (arrI d) T4)) (w.heap.size + 1 + 1 + 1) T4 d := by
 have := Blk.new (((w.alloc (.cells (arrI a) T1)).alloc (.cells (arrI b) T2)).alloc (.cells (arrI c) T3)) T4 d
 simpa using this
def PrdS (w : World) (was now L : List Int) (wr : World) : Prop := Blk wr w.heap.size 50 was ∧ Blk wr (w.heap.size + 1) 50 now ∧ BlkV wr (w.heap.size + 1 + 1) 113 (intsV (zeros 18)) ∧ BlkV wr (w.heap.size + 1 + 1 + 1) 113 (intsV L) ∧ w.grownBy wr none
theorem PrdS.new (w : World) (was now : List Int) : PrdS w was now (zeros 18) ((((w.alloc (.cells (arrI was) 50)).alloc (.cells (arrI now) 50)).alloc (.cells (arrI (zeros 18)) 113)).alloc (.cells (arrI (zeros 18)) 113)) := by
 have h := laid3 w 50 50 113 was now (zeros 18)
 have g := grown_alloc (((w.alloc (.cells (arrI was) 50)).alloc (.cells (arrI now) 50)).alloc (.cells (arrI (zeros 18)) 113)) (.cells (arrI (zeros 18)) 113) none
 exact ⟨h.1.keep g, h.2.1.keep g, h.2.2.1.keep g, laid4C w _ _ _ _ was now _ _, grown_none h.2.2.2 g⟩
theorem PrdS.keep {w : World} {was now L : List Int} {wr wr' : World} (h : PrdS w was now L wr) (g : wr.grownBy wr' none) : PrdS w was now L wr' := ⟨h.1.keep g, h.2.1.keep g, h.2.2.1.keep g, h.2.2.2.1.keep g, grown_none h.2.2.2.2 g⟩
theorem PrdS.put {w : World} {was now L : List Int} {wr : World} (h : PrdS w was now L wr) (o : Nat) (M : List Int) (hl : o + M.length ≤ L.length) : PrdS w was now (ovr L o M) (putV wr (w.heap.size + 1 + 1 + 1) o (intsV M)) ∧ wr.grownBy (putV wr (w.heap.size + 1 + 1 + 1) o (intsV M)) (some (w.heap.size + 1 + 1 + 1)) := by
 have := putI h.2.2.2.1 o M hl
 exact ⟨⟨h.1.keepBut this.2 (by omega), h.2.1.keepBut this.2 (by omega), h.2.2.1.keepBut this.2 (by omega), this.1, grown_own h.2.2.2.2 this.2 (by omega)⟩, this.2⟩
set_option maxRecDepth 100000 in
theorem codPredictors_any (was now : List Int) (h1 : was.length = 8) (h2 : now.length = 8) (s1 : steadyB was = true) (s2 : steadyB now = true) (w : World) :
  Calls Tryz.prog 67 #[.agg (arrI was), .agg (arrI now)] w (AnsC w (.agg (arrI (prL was now 2)))) := by
 have L0 := hide (PrdS.new w was now)
 have MX := hide (fun (k : Nat) wr => mix_any was now h1 h2 (2 + 2 * (k : Int)) wr)
 have DM := hide (fun (k : Nat) (hk : k < 2) wr => direct_any (mixL was now (2 + 2 * (k : Int))) (mixL_len _ _ _) wr)
 have DE := hide (fun (k : Nat) (hk : k < 2) => prdP_mix was now k hk h2 s1 s2)
 have PN := hide (fun (k : Nat) => prdP_len was now k)
 have KN := hide (fun (k : Nat) => mixL_len was now (2 + 2 * (k : Int)))
 have LN := hide (fun (k : Nat) => prL_len was now k)
 have ST := hide (fun (k : Nat) => show ovr (prL was now k) (9 * k) (prdP was now k) = prL was now (k + 1) from rfl)
 have E0 := hide (show zeros 18 = prL was now 0 from rfl)
 have F := hide (show ∀ w', w.grownBy w' none → AnsC w (.agg (arrI (prL was now 2))) (.returned (.agg (arrI (prL was now 2)))) w' from fun w' q => ⟨rfl, q⟩)
 have H1 := hide (show (Tryz.prog.info? 50).map (·.size) = some was.length by rw [h1]; exact size8)
 have H2 := hide (show (Tryz.prog.info? 50).map (·.size) = some now.length by rw [h2]; exact size8)
 have hz := zero_arr zPrd
 clear s1 s2 h1 h2
 generalize AnsC w (.agg (arrI (prL was now 2))) = T at *
 go_enter Tryz.func67, Tryz.ntmps67
 go_upto_region 2 with fail
 generalize (((w.alloc (.cells (arrI was) 50)).alloc (.cells (arrI now) 50)).alloc (.cells (arrI (zeros 18)) 113)).alloc (.cells (arrI (zeros 18)) 113) = W0 at *
 clear hz
 go_wp2_with fail
 go_loopw [9] (fun i wr => ∃ k : Nat, i = .int .i64 (k : Int) ∧ k ≤ 2 ∧ Hid (PrdS w was now (prL was now k) wr)) (fun i _ => 2 - (intOf i).toNat)
 case atStart => exact ⟨0, rfl, Nat.zero_le _, by rw [← E0.out]; exact L0.out⟩
 case round =>
  obtain ⟨k, rfl, hk, hP⟩ := hrel
  clear L0 E0
  by_cases hkl : k < 2
  ·have hk2 : (k : Int) < 2 := by omega
   have MX1 := hide (MX.out k wr)
   have DM1 := hide (DM.out k hkl)
   have DE1 := hide (DE.out k hkl)
   have q1 : ((k : Int) + 1) * 4 = 4 * k + 4 := by omega
   have q2 : (4 * (k : Int) + 4).tdiv 2 = 2 + 2 * k := by rw [Int.tdiv_eq_ediv_of_nonneg (by omega)]; omega
   have q3 : (4 * (k : Int) + 4) / 2 = 2 + 2 * k := by omega
   clear MX DM DE F
   rw [DE1.out] at DM1
   have PN1 := hide (PN.out k)
   have KN1 := hide (KN.out k)
   have LN1 := hide (LN.out k)
   have ST1 := hide (ST.out k)
   clear PN KN LN ST DE1
   generalize mixE was now (2 + 2 * (k : Int)) = x1 at *
   generalize dirE (mixL was now (2 + 2 * (k : Int))) = x2 at *
   generalize mixL was now (2 + 2 * (k : Int)) = K at *
   generalize prdP was now k = A at *
   go_upto_region 5 with fail
   go_wp2_with (first | refine wpList_load_arr rfl 50 _ rfl _ rfl _ hP.out.1 _ Tryz.underlying50 rfl H1.out ?_ | refine wpList_load_arr rfl 50 _ rfl _ rfl _ hP.out.2.1 _ Tryz.underlying50 rfl H2.out ?_)
   (try simp only [q1, q2, q3])
   refine MX1.out.mono ?_
   rintro e w1 ⟨rfl, g1⟩
   obtain ⟨b1, b2, b3⟩ := fresh_arr w1 50 8 K KN1.out
   have B1 := hide b1
   have B2 := hide b2
   have P2 := hide ((hP.out.keep g1).keep b3)
   rw [z8'] at B1 B2 P2
   clear g1 b1 b2 b3 hP MX1
   go_upto_region 6 with (first | refine wpList_store_arr rfl 50 _ _ rfl _ (zeros 8) K rfl rfl B1.out (by rw [KN1.out, zeros_len]) (by rw [zeros_len]; exact size8) ?_)
   (try simp only [Act.put])
   clear B1
   generalize putArr _ w1.heap.size K = w2 at *
   generalize w1.heap.size = bk at *
   go_wp2_with (first | refine wpList_load_arr rfl 50 _ rfl _ rfl _ B2.out _ Tryz.underlying50 rfl (by rw [KN1.out]; exact size8) ?_)
   refine (DM1.out w2).mono ?_
   rintro e w3 ⟨rfl, g3⟩
   have P3 := hide (P2.out.keep g3)
   have PU := P3.out.put (9 * k) A (by rw [PN1.out, LN1.out]; omega)
   have P4 := hide PU.1
   rw [ST1.out] at P4
   have I_ := hide (intsV_one A)
   have IL := hide (show (intsV A).length = 9 by rw [intsV_len]; exact PN1.out)
   have IP := hide (show (intsV (prL was now k)).length = 18 by rw [intsV_len]; exact LN1.out)
   clear g3 P2 B2 PU DM1 ST1
   go_upto_region 7 with (first | refine wpList_store_v rfl 95 _ _ rfl (w.heap.size + 1 + 1 + 1) (9 * k) 113 (intsV (prL was now k)) (intsV A) (by go_simp; (try simp only [Nat.mul_comm]); (try with_reducible rfl)) rfl P3.out.2.2.2.1 (by rw [IL.out, IP.out]; omega) (by rw [IL.out]; exact size9') I_.out ?_)
   (try simp only [Act.put])
   clear P3 I_ IL IP
   generalize putV w3 (w.heap.size + 1 + 1 + 1) (9 * k) (intsV A) = w4 at *
   go_wp2_with fail
   go_roundw
   case rel => exact ⟨k + 1, by go_num, by omega, P4.out⟩
   case measure => simp [intOf]; omega
  ·obtain rfl : k = 2 := by omega
   have LN1 := hide (LN.out 2)
   clear MX DM DE PN KN LN ST
   generalize prL was now 2 = L at *
   have PA := hide (show ((intsV L).drop 0).take 18 = intsV L from by rw [List.drop_zero, List.take_of_length_le (by rw [intsV_len, LN1.out]; omega)])
   have PU := put_v hP.out.2.2.1 0 (intsV L) (by rw [intsV_len, intsV_len, LN1.out, zeros_len]; omega)
   rw [splV_all _ _ (by rw [intsV_len, intsV_len, LN1.out, zeros_len])] at PU
   have PB := hide PU
   have FF := hide (F.out _ (grown_own hP.out.2.2.2.2 PU.2 (by omega)))
   have I_ := hide (intsV_one L)
   have IL := hide (show (intsV L).length = 18 by rw [intsV_len]; exact LN1.out)
   have IZ := hide (show (intsV (zeros 18)).length = 18 by rw [intsV_len]; exact zeros_len 18)
   clear PU F
   rw [show arrI L = (intsV L).toArray from rfl] at FF
   go_wp2_with (first | refine wpList_load_v rfl 113 _ rfl (w.heap.size + 1 + 1 + 1) 0 18 rfl 113 (intsV L) hP.out.2.2.2.1 _ Tryz.underlying113 rfl size18 (by rw [IL.out]; omega) _ PA.out ?_ | refine wpList_store_v rfl 113 _ _ rfl (w.heap.size + 1 + 1) 0 113 (intsV (zeros 18)) (intsV L) rfl rfl hP.out.2.2.1 (by rw [IL.out, IZ.out]; omega) (by rw [IL.out]; exact size18) I_.out ?_)
   have hlv := loadVar_v PB.out.1 _ Tryz.underlying113 rfl (by rw [IL.out]; exact size18)
   refine bodyPost_ret (v := .agg (intsV L).toArray) ?_ rfl FF.out
   simp [results, Tryz.results67, asAddr, Act.put, hlv]
theorem codProduct_any (v u : Value) (a b : List Int) (w : World) (ha : Ints w v a) (hb : Ints w u b) (hl : a.length ≤ b.length) (hn : a.length ≤ 100) (ra : rightB a = true) (rb : rightB b = true) :
  Calls Tryz.prog 64 #[v, u] w (Ans w (.int .i64 (dotS a b a.length))) := by
 have F := hide (show Ans w (.int .i64 (dotS a b a.length)) (.returned (.int .i64 (dotS a b a.length))) w from ⟨rfl, rfl⟩)
 have DB := hide (dotS_bd a b ra rb)
 have RA := hide (nth_in a (-32768) 32767 (by omega) (by omega) ((rightB_iff a).1 ra))
 have RB := hide (nth_in b (-32768) 32767 (by omega) (by omega) ((rightB_iff b).1 rb))
 obtain ⟨ad, c, rfl, hc, hva⟩ := ha
 obtain ⟨bd, d, rfl, hd, hvb⟩ := hb
 have VA := hide hva
 have VB := hide hvb
 clear hva hvb ra rb
 generalize Ans w (.int .i64 (dotS a b a.length)) = T at *
 go_enter Tryz.func64, Tryz.ntmps64
 go_wp2_with fail
 go_loop [5, 10] (fun s i => ∃ m : Nat, i = .int .i64 m ∧ s = .int .i64 (dotS a b m) ∧ m ≤ a.length) (fun _ i => a.length - (intOf i).toNat)
 case atStart => exact ⟨0, rfl, rfl, Nat.zero_le _⟩
 case round =>
  obtain ⟨m, rfl, rfl, hm⟩ := hrel
  by_cases hml : m < a.length
  ·obtain ⟨pa, rfl, ca⟩ := VA.out (by omega)
   obtain ⟨pb, rfl, cb⟩ := VB.out (by omega)
   have cx := ca m hml
   have cy := cb m (by omega)
   obtain ⟨x1, x2⟩ := RA.out m
   obtain ⟨y1, y2⟩ := RB.out m
   have pq := p16_bd _ _ x1 x2 y1 y2
   have dd := DB.out m
   have ST := dotS_step a b m
   have i1 : (m : Int) < a.length := by omega
   have i2 : (m : Int) < b.length := by omega
   have HS := hide ST
   clear ca cb DB RA RB VA VB ST F
   obtain ⟨p1, p2⟩ := pq
   obtain ⟨d1, d2⟩ := dd
   have d3 : -107374182400 ≤ dotS a b m := by omega
   have d4 : dotS a b m ≤ 107374182400 := by omega
   clear d1 d2
   generalize dotS a b m = s at *
   generalize nth a m = x at *
   generalize nth b m = y at *
   go_wp2_with fail
   go_round
   case rel => exact ⟨m + 1, by go_num, by rw [HS.out], by omega⟩
   case measure => simp [intOf]; omega
  ·obtain rfl : m = a.length := by omega
   clear VA VB RA RB DB
   generalize dotS a b a.length = s at *
   go_wp2_with fail
   exact F.out
set_option maxRecDepth 100000 in
theorem codLess_any (v u : Value) (a b : List Int) (w : World) (ha : Ints w v a) (hb : Ints w u b) (la : a.length = 40) (lb : b.length = 40) :
  Calls Tryz.prog 151 #[v, u] w (LstE w (lesL a b)) := by
 have IV := hide (fun wr (g : w.grownBy wr none) => Ints_keep ha g)
 have IU := hide (fun wr (g : w.grownBy wr none) => Ints_keep hb g)
 have F := hide (show ∀ v' w', Own w.heap.size w' v' (lesL a b) → w.grownBy w' none → LstE w (lesL a b) (.returned v') w' from fun v' w' o q => ⟨v', rfl, o, q⟩)
 have EN := hide (fun m => show c16 (c16 (nth a m) - c16 (nth b m)) = (fun i => c16 (c16 (nth a i) - c16 (nth b i))) m from rfl)
 have EL := hide (show tab 40 (fun i => c16 (c16 (nth a i) - c16 (nth b i))) = lesL a b from by unfold lesL; rw [la])
 obtain ⟨ad, c, rfl, hc, _⟩ := ha
 obtain ⟨bd, d, rfl, hd, _⟩ := hb
 rw [la] at hc IV ⊢
 rw [lb] at hd IU ⊢
 have LA := hide la
 have LB := hide lb
 have M0 := hide (show Blk (w.alloc (.cells (arrI (zeros 40)) 3)) w.heap.size 3 (zeros 40) ∧ w.grownBy (w.alloc (.cells (arrI (zeros 40)) 3)) none from ⟨Blk.new w 3 (zeros 40), grown_alloc _ _ none⟩)
 have hmk := make_zeros 40 (by omega)
 rw [show ((40 : Nat) : Int) = 40 from rfl] at hmk
 clear la lb
 generalize LstE w (lesL a b) = T at *
 generalize (fun i => c16 (c16 (nth a i) - c16 (nth b i))) = f at *
 go_enter Tryz.func151, Tryz.ntmps151
 go_upto_region 2 with fail
 clear hmk
 generalize w.alloc (.cells (arrI (zeros 40)) 3) = W0 at *
 go_wp2_with fail
 go_loopw [13] (fun i wr => ∃ (m : Nat) (rs : List Int), i = .int .i64 (m : Int) ∧ m ≤ 40 ∧ Hid (FillN 40 f m rs) ∧ Hid (Blk wr w.heap.size 3 rs ∧ w.grownBy wr none)) (fun i _ => 40 - (intOf i).toNat)
 case atStart => exact ⟨0, zeros 40, rfl, Nat.zero_le _, fillN_start 40 _, M0.out⟩
 case round =>
  obtain ⟨m, rs, rfl, hm, hF, hM⟩ := hrel
  clear M0
  by_cases hm40 : m < 40
  ·have i1 : (m : Int) < 40 := by omega
   obtain ⟨p, rfl, ca⟩ := Ints_cell (IV.out _ hM.out.2) m (by rw [LA.out]; exact hm40)
   obtain ⟨q, rfl, cb⟩ := Ints_cell (IU.out _ hM.out.2) m (by rw [LB.out]; exact hm40)
   have cd := hM.out.1.cell m (by rw [hF.out.1]; exact hm40)
   have fd := hM.out.1.free m
   have NF := hide (fillN_step hF.out hm40)
   have NM := hide (show Blk (wr.setCell ⟨w.heap.size, m, none⟩ (.int .i64 (f m))) w.heap.size 3 (rs.set m (f m)) ∧ w.grownBy (wr.setCell ⟨w.heap.size, m, none⟩ (.int .i64 (f m))) none from ⟨hM.out.1.set m (f m), grown_own hM.out.2 (grown_setCell wr ⟨w.heap.size, m, none⟩ _) (Nat.le_refl _)⟩)
   have EN1 := hide (EN.out m)
   clear IV IU hF hM F EL EN
   generalize f m = R at *
   generalize nth a m = x at *
   generalize nth b m = y at *
   generalize nth rs m = z at *
   go_wp2_with fail
   refine (sub_any x y _).mono ?_
   rintro e w1 ⟨rfl, rfl⟩
   rw [EN1.out]
   go_wp2_with fail
   go_roundw
   case rel => exact ⟨m + 1, _, by go_num, by omega, NF.out, NM.out⟩
   case measure => simp [intOf]; omega
  ·obtain rfl : m = 40 := by omega
   have RS := fillN_all hF.out
   have OW := ownC_any (base := w.heap.size) hM.out.1 (Nat.le_refl _) (by rw [hF.out.1]; omega)
   rw [hF.out.1, RS, show List.map f (List.range 40) = _ from EL.out] at OW
   have FF := hide (F.out _ _ OW hM.out.2)
   clear F OW IV IU
   go_wp2_with fail
   exact FF.out
set_option maxRecDepth 100000 in
theorem codLouder_any (v : Value) (a : List Int) (n : Int) (w : World) (ha : Ints w v a) (la : a.length = 40) (ra : rightB a = true) (ht : TabA w 2 gains 8) :
  Calls Tryz.prog 155 #[v, .int .i64 n] w (LstE w (louL a (gaV n))) := by
 have IV := hide (fun wr (g : w.grownBy wr none) => Ints_keep ha g)
 have F := hide (show ∀ v' w', Own w.heap.size w' v' (louL a (gaV n)) → w.grownBy w' none → LstE w (louL a (gaV n)) (.returned v') w' from fun v' w' o q => ⟨v', rfl, o, q⟩)
 have GA := hide (pitGain_any n w ht)
 have gb := gaV_bd n
 have EN := hide (fun m => show c16 ((nth a m * gaV n + 8192) / 16384) = (fun i => c16 ((nth a i * gaV n + 8192) / 16384)) m from rfl)
 have EL := hide (show tab 40 (fun i => c16 ((nth a i * gaV n + 8192) / 16384)) = louL a (gaV n) from by unfold louL; rw [la])
 have RA := hide (fun m => right_nth ra m)
 obtain ⟨ad, c, rfl, hc, _⟩ := ha
 rw [la] at hc IV ⊢
 have LA := hide la
 have M0 := hide (show Blk (w.alloc (.cells (arrI (zeros 40)) 3)) w.heap.size 3 (zeros 40) ∧ w.grownBy (w.alloc (.cells (arrI (zeros 40)) 3)) none from ⟨Blk.new w 3 (zeros 40), grown_alloc _ _ none⟩)
 have hmk := make_zeros 40 (by omega)
 rw [show ((40 : Nat) : Int) = 40 from rfl] at hmk
 clear la ra
 generalize LstE w (louL a (gaV n)) = T at *
 generalize (fun i => c16 ((nth a i * gaV n + 8192) / 16384)) = f at *
 generalize gaV n = g at *
 go_enter Tryz.func155, Tryz.ntmps155
 go_wp2_with fail
 refine GA.out.mono ?_
 rintro e w1 ⟨rfl, rfl⟩
 clear GA
 go_upto_region 3 with fail
 clear hmk
 generalize w1.alloc (.cells (arrI (zeros 40)) 3) = W0 at *
 go_wp2_with fail
 go_loopw [20] (fun i wr => ∃ (m : Nat) (rs : List Int), i = .int .i64 (m : Int) ∧ m ≤ 40 ∧ Hid (FillN 40 f m rs) ∧ Hid (Blk wr w1.heap.size 3 rs ∧ w1.grownBy wr none)) (fun i _ => 40 - (intOf i).toNat)
 case atStart => exact ⟨0, zeros 40, rfl, Nat.zero_le _, fillN_start 40 _, M0.out⟩
 case round =>
  obtain ⟨m, rs, rfl, hm, hF, hM⟩ := hrel
  clear M0
  by_cases hm40 : m < 40
  ·have i1 : (m : Int) < 40 := by omega
   obtain ⟨p, rfl, ca⟩ := Ints_cell (IV.out _ hM.out.2) m (by rw [LA.out]; exact hm40)
   have cd := hM.out.1.cell m (by rw [hF.out.1]; exact hm40)
   have fd := hM.out.1.free m
   have NF := hide (fillN_step hF.out hm40)
   have NM := hide (show Blk (wr.setCell ⟨w1.heap.size, m, none⟩ (.int .i64 (f m))) w1.heap.size 3 (rs.set m (f m)) ∧ w1.grownBy (wr.setCell ⟨w1.heap.size, m, none⟩ (.int .i64 (f m))) none from ⟨hM.out.1.set m (f m), grown_own hM.out.2 (grown_setCell wr ⟨w1.heap.size, m, none⟩ _) (Nat.le_refl _)⟩)
   have EN1 := hide (EN.out m)
   have bx := RA.out m
   clear IV hF hM F EL EN RA
   generalize f m = R at *
   generalize nth a m = x at *
   generalize nth rs m = z at *
   have bg := mul16_bd x g bx.1 bx.2 (by omega) (by omega)
   go_wp2_with fail
   refine (sat16_any _ _).mono ?_
   rintro e w2 ⟨rfl, rfl⟩
   rw [EN1.out]
   go_wp2_with fail
   go_roundw
   case rel => exact ⟨m + 1, _, by go_num, by omega, NF.out, NM.out⟩
   case measure => simp [intOf]; omega
  ·obtain rfl : m = 40 := by omega
   have RS := fillN_all hF.out
   have OW := ownC_any (base := w1.heap.size) hM.out.1 (Nat.le_refl _) (by rw [hF.out.1]; omega)
   rw [hF.out.1, RS, show List.map f (List.range 40) = _ from EL.out] at OW
   have FF := hide (F.out _ _ OW hM.out.2)
   clear F OW IV
   go_wp2_with fail
   exact FF.out
end Go.Proofs.YtdejpongekicdaaGreatDoor

/- CnpB -/
namespace Go.Proofs.YtdejpongekicdaaGreatDoor
open Go.RowKit
set_option linter.unusedVariables false
set_option linter.unusedSimpArgs false
set_option maxHeartbeats 2000000
set_option maxRecDepth 100000 in
theorem conMix_size (h : List Int) (lag g : Int) (v : Value) (b : List Int) (w : World) (hv : Ints w v b) (hl : b.length ≠ 40) (hl2 : b.length ≤ 1000000000000000000) :
  Calls Tryz.prog 163 #[.agg (arrI h), .int .i64 lag, .int .i64 g, v] w (ListE w (mxL h lag g b) (mxE lag g b)) := by
 obtain ⟨ad, c, rfl, hc, _⟩ := hv
 have hne : ((b.length : Int) == 40) = false := beq_eq_false_iff_ne.2 (by omega)
 have F := hide (show ∀ w', w.grownBy w' none → ListE w (mxL h lag g b) (mxE lag g b) (.returned (.tuple #[.slice none 0 0, .int .i64 1])) w' from fun w' q => ⟨_, by rw [(mxL_size (h := h) hl).2], by rw [(mxL_size (h := h) hl).1]; exact Own_nil _ _, q⟩)
 have G0 := hide (grown_alloc w (.cells (arrI h) 51) none)
 clear hl
 generalize ListE w (mxL h lag g b) (mxE lag g b) = T at *
 go_enter Tryz.func163, Tryz.ntmps163
 go_upto_region 1 with fail
 generalize w.alloc (.cells (arrI h) 51) = W0 at *
 go_wp2_with fail
 exact F.out _ G0.out
set_option maxRecDepth 100000 in
theorem conMix_gain (h : List Int) (lag g : Int) (v : Value) (b : List Int) (w : World) (hv : Ints w v b) (hl : b.length = 40) (hr : ¬ (0 ≤ g ∧ g ≤ 32767)) :
  Calls Tryz.prog 163 #[.agg (arrI h), .int .i64 lag, .int .i64 g, v] w (ListE w (mxL h lag g b) (mxE lag g b)) := by
 obtain ⟨ad, c, rfl, hc, _⟩ := hv
 have q : ¬ mxO lag g b := by unfold mxO; omega
 have F := hide (show ∀ w', w.grownBy w' none → ListE w (mxL h lag g b) (mxE lag g b) (.returned (.tuple #[.slice none 0 0, .int .i64 2])) w' from fun w' k => ⟨_, by rw [(mxL_range (h := h) hl q).2], by rw [(mxL_range (h := h) hl q).1]; exact Own_nil _ _, k⟩)
 have G0 := hide (grown_alloc w (.cells (arrI h) 51) none)
 have WI := hide (fun u => conWithin_any g 0 32767 u)
 rw [decide_eq_false hr] at WI
 rw [hl] at hc ⊢
 clear hl q hr
 generalize ListE w (mxL h lag g b) (mxE lag g b) = T at *
 go_enter Tryz.func163, Tryz.ntmps163
 go_upto_region 1 with fail
 generalize w.alloc (.cells (arrI h) 51) = W0 at *
 go_wp2_with fail
 refine (WI.out _).mono ?_
 rintro e w1 ⟨rfl, rfl⟩
 go_wp2_with fail
 exact F.out _ G0.out
set_option maxRecDepth 100000 in
theorem conMix_lag (h : List Int) (lag g : Int) (v : Value) (b : List Int) (w : World) (hh : h.length = 80) (hv : Ints w v b) (hl : b.length = 40) (hg : 0 ≤ g ∧ g ≤ 32767) (hr : ¬ (20 ≤ lag ∧ lag ≤ 79)) :
  Calls Tryz.prog 163 #[.agg (arrI h), .int .i64 lag, .int .i64 g, v] w (ListE w (mxL h lag g b) (mxE lag g b)) := by
 obtain ⟨ad, c, rfl, hc, _⟩ := hv
 have q : ¬ mxO lag g b := by unfold mxO; omega
 have F := hide (show ∀ w', w.grownBy w' none → ListE w (mxL h lag g b) (mxE lag g b) (.returned (.tuple #[.slice none 0 0, .int .i64 2])) w' from fun w' k => ⟨_, by rw [(mxL_range (h := h) hl q).2], by rw [(mxL_range (h := h) hl q).1]; exact Own_nil _ _, k⟩)
 have B0 := hide (Blk.new w 51 h)
 have G0 := hide (grown_alloc w (.cells (arrI h) 51) none)
 have WI := hide (fun u => conWithin_any g 0 32767 u)
 rw [decide_eq_true hg] at WI
 have PS := hide (fun u => pitPast_any h hh lag u)
 rw [show pasL h lag = [] from if_neg hr, show pasE lag = 2 from if_neg hr] at PS
 have S80 := hide (show (Tryz.prog.info? 51).map (·.size) = some h.length by rw [hh]; exact size80c)
 rw [hl] at hc ⊢
 clear hl q hr hg hh
 generalize ListE w (mxL h lag g b) (mxE lag g b) = T at *
 go_enter Tryz.func163, Tryz.ntmps163
 go_upto_region 1 with fail
 generalize w.alloc (.cells (arrI h) 51) = W0 at *
 go_wp2_with fail
 refine (WI.out _).mono ?_
 rintro e w1 ⟨rfl, rfl⟩
 clear WI
 go_wp2_with (refine wpList_load_arr rfl 51 _ rfl w.heap.size rfl h B0.out _ Tryz.underlying51 rfl S80.out ?_)
 refine (PS.out _).mono ?_
 rintro e w2 ⟨v2, rfl, o2, g2⟩
 have FF := hide (F.out _ (grown_none G0.out g2))
 clear PS o2 g2 F
 go_wp2_with fail
 exact FF.out
set_option maxRecDepth 100000 in
theorem conMix_yes (h : List Int) (lag g : Int) (v : Value) (b : List Int) (w : World) (hh : h.length = 80) (hv : Ints w v b) (hk : mxO lag g b) :
  Calls Tryz.prog 163 #[.agg (arrI h), .int .i64 lag, .int .i64 g, v] w (ListE w (mxL h lag g b) (mxE lag g b)) := by
 have IV := hide (fun wr (g : w.grownBy wr none) => Ints_keep hv g)
 obtain ⟨ad, c, rfl, hc, _⟩ := hv
 have hl := hk.1
 rw [hl] at hc IV ⊢
 obtain ⟨_, ⟨l0, l9⟩, g0, g9⟩ := id hk
 have PS := hide (fun u => pitPast_any h hh lag u)
 have pl : (pasL h lag).length = 40 := by
  obtain ⟨L, rfl⟩ : ∃ L : Nat, lag = (L : Int) := ⟨lag.toNat, by omega⟩
  rw [(pasL_yes h L (by omega) (by omega)).1]; exact pasV_len _ _
 have pe : pasE lag = 0 := if_pos ⟨l0, l9⟩
 rw [pe] at PS
 have F := hide (show ∀ v' w', Own w.heap.size w' v' (mxA (pasL h lag) g b) → w.grownBy w' none → ListE w (mxL h lag g b) (mxE lag g b) (.returned (.tuple #[v', .int .i64 0])) w' from fun v' w' o q => ⟨v', by rw [(mxL_yes (h := h) hk).2], by rw [(mxL_yes (h := h) hk).1]; exact o, q⟩)
 have WI := hide (fun u => conWithin_any g 0 32767 u)
 rw [decide_eq_true (show 0 ≤ g ∧ g ≤ 32767 from ⟨g0, g9⟩)] at WI
 have B0 := hide (Blk.new w 51 h)
 have G0 := hide (grown_alloc w (.cells (arrI h) 51) none)
 have BL := hide hl
 have VL := hide pl
 have S80 := hide (show (Tryz.prog.info? 51).map (·.size) = some h.length by rw [hh]; exact size80c)
 have hmk := make_zeros 40 (by omega)
 rw [show ((40 : Nat) : Int) = 40 from rfl] at hmk
 clear hl hk hh pe pl
 generalize ListE w (mxL h lag g b) (mxE lag g b) = T at *
 generalize pasL h lag = V at *
 go_enter Tryz.func163, Tryz.ntmps163
 go_upto_region 1 with fail
 generalize w.alloc (.cells (arrI h) 51) = W0 at *
 go_wp2_with fail
 refine (WI.out _).mono ?_
 rintro e w1 ⟨rfl, rfl⟩
 clear WI
 go_wp2_with (refine wpList_load_arr rfl 51 _ rfl w.heap.size rfl h B0.out _ Tryz.underlying51 rfl S80.out ?_)
 refine (PS.out _).mono ?_
 rintro e W2 ⟨v2, rfl, o2, g2⟩
 obtain ⟨gv, cv', rfl, _, _, _⟩ := o2.form (by rw [VL.out]; omega)
 have G2 := hide (grown_none G0.out g2)
 have OV := hide o2
 clear o2 g2 PS B0 G0 S80
 rw [VL.out] at OV ⊢
 have M0 := hide (show Blk (W2.alloc (.cells (arrI (zeros 40)) 3)) W2.heap.size 3 (zeros 40) ∧ W2.grownBy (W2.alloc (.cells (arrI (zeros 40)) 3)) none from ⟨Blk.new W2 3 (zeros 40), grown_alloc _ _ none⟩)
 go_upto_region 9 with fail
 clear hmk
 generalize W2.alloc (.cells (arrI (zeros 40)) 3) = W3 at *
 go_wp2_with fail
 go_loopw [33] (fun i wr => ∃ (m : Nat) (rs : List Int), i = .int .i64 (m : Int) ∧ m ≤ 40 ∧ Hid (FillN 40 (mxN V g b) m rs) ∧ Hid (Blk wr W2.heap.size 3 rs ∧ W2.grownBy wr none)) (fun i _ => 40 - (intOf i).toNat)
 case atStart => exact ⟨0, zeros 40, rfl, Nat.zero_le _, fillN_start 40 _, M0.out⟩
 case round =>
  obtain ⟨m, rs, rfl, hm, hF, hM⟩ := hrel
  clear M0
  by_cases hm40 : m < 40
  ·have i1 : (m : Int) < 40 := by omega
   have cv := (OV.out.keep hM.out.2).cell VL.out.symm m (by rw [VL.out]; exact hm40)
   obtain ⟨a, rfl, cb⟩ := Ints_cell (IV.out _ (grown_none G2.out hM.out.2)) m (by rw [BL.out]; exact hm40)
   have cd := hM.out.1.cell m (by rw [hF.out.1]; exact hm40)
   have fd := hM.out.1.free m
   have NF := hide (fillN_step hF.out hm40)
   have NM := hide (show Blk (wr.drew.setCell ⟨W2.heap.size, m, none⟩ (.int .i64 (mxN V g b m))) W2.heap.size 3 (rs.set m (mxN V g b m)) ∧ W2.grownBy (wr.drew.setCell ⟨W2.heap.size, m, none⟩ (.int .i64 (mxN V g b m))) none from ⟨(hM.out.1.keep (grown_drew (grown_refl wr none))).set m _, grown_own (grown_none hM.out.2 (grown_drew (grown_refl wr none))) (grown_setCell _ ⟨W2.heap.size, m, none⟩ _) (Nat.le_refl _)⟩)
   have EN := hide (show c16 ((c16 (nth V m) * g + 8192) / 16384 + c16 (nth b m)) = mxN V g b m from rfl)
   have bx := c16_bd (nth V m)
   have by' := c16_bd (nth b m)
   have bg : -1073709056 ≤ c16 (nth V m) * g ∧ c16 (nth V m) * g ≤ 1073741824 := mul16_bd _ _ bx.1 bx.2 (by omega) g9
   clear IV hF hM OV
   generalize mxN V g b m = R at *
   generalize nth V m = x at *
   generalize nth b m = y at *
   generalize nth rs m = q at *
   have W3 := wrapI ((c16 x * g + 8192) / 16384 + c16 y) (by omega) (by omega)
   go_upto_region 12 with fail
   refine wp_region_G 14 (fun w' => w' = wr.drew) 15 (by rfl) #[false, false, false, false, false, false, false, false, false, false, false, false, false, false, false] (by rfl) (by kernel_rfl) (fun hcl => ?_)
   refine wpAnyG_take (i := 0) (v := ?vmx0) rfl (by kernel_rfl) hcl (fun _ _ _ h => h) (Or.inl ⟨by rfl, ?ymx0⟩) rfl (fun hcl => ?rmx0)
   case ymx0 => (intro w' hSw; subst hSw; go_simp; try with_reducible rfl)
   (try simp only [Act.put, sL])
   refine wpAnyG_take (i := 1) (v := ?vmx1) rfl (by kernel_rfl) hcl (fun _ _ _ h => h) (Or.inl ⟨by rfl, ?ymx1⟩) rfl (fun hcl => ?rmx1)
   case ymx1 => (intro w' hSw; subst hSw; go_simp; try with_reducible rfl)
   (try simp only [Act.put, sL])
   refine wpAnyG_take (i := 2) (v := ?vmx2) rfl (by kernel_rfl) hcl (fun _ _ _ h => h) (Or.inl ⟨by rfl, ?ymx2⟩) rfl (fun hcl => ?rmx2)
   case ymx2 => (intro w' hSw; subst hSw; go_simp; try with_reducible rfl)
   (try simp only [Act.put, sL])
   refine wpAnyG_take (i := 4) (v := ?vmx4) rfl (by kernel_rfl) hcl (fun _ _ _ h => h) (Or.inl ⟨by rfl, ?ymx4⟩) rfl (fun hcl => ?rmx4)
   case ymx4 => (intro w' hSw; subst hSw; go_simp; try with_reducible rfl)
   (try simp only [Act.put, sL])
   refine wpAnyG_take (i := 6) (v := ?vmx6) rfl (by kernel_rfl) hcl (fun _ _ _ h => h) (Or.inl ⟨by rfl, ?ymx6⟩) rfl (fun hcl => ?rmx6)
   case ymx6 => (intro w' hSw; subst hSw; go_simp; try with_reducible rfl)
   (try simp only [Act.put, sL])
   refine wpAnyG_take (i := 7) (v := ?vmx7) rfl (by kernel_rfl) hcl (fun _ _ _ h => h) (Or.inl ⟨by rfl, ?ymx7⟩) rfl (fun hcl => ?rmx7)
   case ymx7 => (intro w' hSw; subst hSw; go_simp; try with_reducible rfl)
   (try simp only [Act.put, sL])
   refine wpAnyG_take (i := 8) (v := ?vmx8) rfl (by kernel_rfl) hcl (fun _ _ _ h => h) (Or.inl ⟨by rfl, ?ymx8⟩) rfl (fun hcl => ?rmx8)
   case ymx8 => (intro w' hSw; subst hSw; go_simp; try with_reducible rfl)
   (try simp only [Act.put, sL])
   refine wpAnyG_take (i := 9) (v := .int .i64 y) rfl (by kernel_rfl) hcl (fun _ _ _ h => h) (Or.inl ⟨by rfl, ?ymx9⟩) rfl (fun hcl => ?rmx9)
   case ymx9 => (intro w' hSw; subst hSw; go_simp; try with_reducible rfl)
   (try simp only [Act.put, sL])
   refine wpAnyG_exec (i := 3) rfl (by kernel_rfl) hcl (fun K hK => ?_)
   (try simp only [Act.put, sL])
   go_simp
   refine (conStopped_any x _).mono ?_
   rintro e w1 ⟨rfl, rfl⟩
   go_wp2_with fail
   refine hK.out _ _ (fun _ => rfl) (fun hcl => ?_)
   clear hK
   (try simp only [Act.put, sL])
   refine wpAnyG_exec (i := 5) rfl (by kernel_rfl) hcl (fun K hK => ?_)
   (try simp only [Act.put, sL])
   go_simp
   refine (conScaled_any (c16 x) g (by omega) (by omega) _).mono ?_
   rintro e w1 ⟨rfl, rfl⟩
   go_wp2_with fail
   refine hK.out _ _ (fun _ => rfl) (fun hcl => ?_)
   clear hK
   (try simp only [Act.put, sL])
   refine wpAnyG_exec (i := 10) rfl (by kernel_rfl) hcl (fun K hK => ?_)
   (try simp only [Act.put, sL])
   go_simp
   refine (conStopped_any y _).mono ?_
   rintro e w1 ⟨rfl, rfl⟩
   go_wp2_with fail
   refine hK.out _ _ (fun _ => rfl) (fun hcl => ?_)
   clear hK
   (try simp only [Act.put, sL])
   refine wpAnyG_take (i := 11) (v := .int .i64 ((c16 x * g + 8192) / 16384 + c16 y)) rfl (by kernel_rfl) hcl (fun _ _ _ h => h) (Or.inl ⟨by rfl, ?ymx11⟩) rfl (fun hcl => ?rmx11)
   case ymx11 => (intro w' hSw; subst hSw; go_simp; (try simp only [W3]))
   (try simp only [Act.put, sL])
   refine wpAnyG_exec (i := 12) rfl (by kernel_rfl) hcl (fun K hK => ?_)
   (try simp only [Act.put, sL])
   go_simp
   refine (conStopped_any ((c16 x * g + 8192) / 16384 + c16 y) _).mono ?_
   rintro e w1 ⟨rfl, rfl⟩
   rw [EN.out]
   go_wp2_with fail
   refine hK.out _ _ (fun _ => rfl) (fun hcl => ?_)
   clear hK
   (try simp only [Act.put, sL])
   refine wpAnyG_take (i := 13) (v := ?vmx13) rfl (by kernel_rfl) hcl (fun _ _ _ h => h) (Or.inl ⟨by rfl, ?ymx13⟩) rfl (fun hcl => ?rmx13)
   case ymx13 => (intro w' hSw; subst hSw; go_simp; try with_reducible rfl)
   (try simp only [Act.put, sL])
   refine wpAnyG_exec (i := 14) rfl (by kernel_rfl) hcl (fun K hK => ?_)
   (try simp only [Act.put, sL])
   go_simp
   go_wp2_with fail
   refine hK.out _ _ (fun h => by cases h) (fun hcl => ?_)
   clear hK
   (try simp only [Act.put, sL])
   refine wpAnyG_of_any _ _ _ _ (by rfl) ?_
   refine wpAny_done (by kernel_rfl) ?_ _
   go_wp2_with fail
   go_roundw
   case rel => exact ⟨m + 1, _, by go_num, by omega, NF.out, NM.out⟩
   case measure => first | (simp [intOf]; done) | (simp [intOf]; omega)
  ·obtain rfl : m = 40 := by omega
   have EL := hide (show rs = mxA V g b from fillN_all hF.out)
   have hlen : rs.length = 40 := hF.out.1
   have OF := ownP_any (base := w.heap.size) hM.out.1 G2.out.size (by omega)
   rw [hlen] at OF
   have FF := hide (F.out _ _ (by rw [← EL.out]; exact OF) (grown_none G2.out hM.out.2))
   clear hF hM F IV OF OV
   rw [show ((40 : Nat) : Int) = 40 from rfl]
   go_wp2_with fail
   exact FF.out
theorem conMix_any (h : List Int) (lag g : Int) (v : Value) (b : List Int) (w : World) (hh : h.length = 80) (hv : Ints w v b) (hl2 : b.length ≤ 1000000000000000000) :
  Calls Tryz.prog 163 #[.agg (arrI h), .int .i64 lag, .int .i64 g, v] w (ListE w (mxL h lag g b) (mxE lag g b)) := by
 by_cases hl : b.length = 40
 ·by_cases hg : 0 ≤ g ∧ g ≤ 32767
  ·by_cases hr : 20 ≤ lag ∧ lag ≤ 79
   ·exact conMix_yes h lag g v b w hh hv ⟨hl, hr, hg⟩
   ·exact conMix_lag h lag g v b w hh hv hl hg hr
  ·exact conMix_gain h lag g v b w hv hl hg
 ·exact conMix_size h lag g v b w hv hl hl2
theorem step_copyK {y : Nat → Option Bool} {o : Oper} {a : Act} {w : World} {K : Act → World → Prop} {Q : Exit → Act → World → Prop} {E : Prop} (hg : o.guard = none) (d s : Operand)
  (hop : o.op = Op.call { callee := Callee.builtin Builtin.copy, args := #[d, s], argTypes := #[26, 26] }) (b off dn n dc sc : Nat) (T : TypeId) (p L : List Int) (ad : Addr) (hb : Blk w b T p)
  (hd : a.eval d = .slice (some ⟨b, off, none⟩) dn dc) (hs : a.eval s = .slice (some ad) n sc) (hL : L.length = n) (hdn : n ≤ dn) (hsrc : ∀ j, j < n → w.cell? (ad.add j) = some (.int .i64 (nth L j))) (hfit : off + n ≤ p.length)
  (hK : ∀ w', Blk w' b T (splI p off L) → w.grownBy w' (some b) → K (a.put o.dst (goInt n)) w') : if Region.wanted o y = true then Oper.wp Tryz.prog o a w K Q else E := by
 have hw : Region.wanted o y = true := by simp [Region.wanted, hg]
 rw [if_pos hw]
 have hsz : (Tryz.prog.info? 3).map (·.size) = some 1 := by kernel_rfl
 have hrun := run_copy_row (P := Tryz.prog) w 26 26 o.type 3 b off dn dc ad n sc (arrI p) T (L.map (Value.int .i64)) Tryz.underlying26 hsz hb (by rw [List.length_map, hL]; exact (Nat.min_eq_left hdn).symm)
  (fun j v hv => by
   have hj : j < L.length := by
    by_cases hj : j < L.length
    ·exact hj
    ·rw [List.getElem?_eq_none (by simp; omega)] at hv; cases hv
   rw [hsrc j (by omega)]
   simpa [nth, List.getD, hj] using hv)
  (by simp [arrI, hL]; omega) (fun v hv => by
   obtain ⟨x, _, rfl⟩ := List.mem_map.1 hv
   rfl)
 have e : ((arrI p).toList.take off ++ L.map (Value.int .i64) ++ (arrI p).toList.drop (off + (L.map (Value.int .i64)).length)).toArray = arrI (splI p off L) := by
  simp [arrI, splI, List.map_take, List.map_drop]
 rw [e, List.length_map, hL] at hrun
 unfold Oper.wp
 simp [execOp, hop, resolve, invoke, builtin, hd, hs, hrun, Result.andThen]
 exact hK _ (setRow_heap _ _ _ _ _ _ hb) (grown_setRowI _ _ _)
theorem Mem2.put2 {w wr : World} {T1 T2 : TypeId} {a b b' : List Int} (h : Mem2 w wr T1 T2 a b) (hl : b'.length = b.length) : Blk (putArr wr (w.heap.size + 1) b') (w.heap.size + 1) T2 b' ∧ w.grownBy (putArr wr (w.heap.size + 1) b') none := by
 have := put_arr (rs' := b') h.2.1 hl
 exact ⟨this.1, grown_own h.2.2 this.2 (by omega)⟩
theorem Mem2.set1 {w wr : World} {T1 T2 : TypeId} {a b : List Int} (h : Mem2 w wr T1 T2 a b) (k : Nat) (z : Int) : Mem2 w (wr.setCell ⟨w.heap.size, k, none⟩ (.int .i64 z)) T1 T2 (a.set k z) b :=
 ⟨h.1.set k z, h.2.1.keepBut (grown_setCell wr ⟨w.heap.size, k, none⟩ (.int .i64 z)) (by simp), grown_own h.2.2 (grown_setCell wr ⟨w.heap.size, k, none⟩ (.int .i64 z)) (Nat.le_refl _)⟩
set_option maxRecDepth 100000 in
theorem conKeep_no (h : List Int) (v : Value) (b : List Int) (w : World) (hh : h.length = 80) (hv : Ints w v b) (hl : b.length ≠ 40) (hl2 : b.length ≤ 1000000000000000000) :
  Calls Tryz.prog 164 #[.agg (arrI h), v] w (KepE w (kpL h b) (kpE b)) := by
 obtain ⟨ad, c, rfl, hc, _⟩ := hv
 have M0 := hide (show Mem2 w _ 51 51 h (zeros 80) from laid2 w 51 51 h (zeros 80))
 have PU := M0.out.put2 (b' := zeros 80) rfl
 have PB := hide PU.1
 have ZL := hide (zeros_len 80)
 have hz := zero_arr z80
 have hne : ((b.length : Int) == 40) = false := beq_eq_false_iff_ne.2 (by omega)
 have F := hide (show KepE w (kpL h b) (kpE b) (.returned (.tuple #[.agg (arrI (zeros 80)), .int .i64 1])) _ from ⟨by rw [(kpL_no (h := h) hl).1, (kpL_no (h := h) hl).2], PU.2⟩)
 clear PU hl hh
 generalize KepE w (kpL h b) (kpE b) = T at *
 generalize zeros 80 = Z at *
 go_enter Tryz.func164, Tryz.ntmps164
 go_upto_region 1 with fail
 generalize (w.alloc (.cells (arrI h) 51)).alloc (.cells (arrI Z) 51) = W0 at *
 go_wp2_with (first | refine wpList_store_arr rfl 51 _ _ rfl _ Z Z rfl rfl M0.out.2.1 rfl (by rw [ZL.out]; exact size80c) ?_)
 have hlv := loadVar_arr PB.out _ Tryz.underlying51 rfl (by rw [ZL.out]; exact size80c)
 refine bodyPost_ret (v := .tuple #[.agg (arrI Z), .int .i64 1]) ?_ rfl F.out
 simp [results, Tryz.results164, asAddr, Act.put, hlv]
theorem kpFill_start (h b : List Int) (hh : h.length = 80) : FillN 80 (kpN h b) (40 + 0) (splI h 0 (prt h 40 40)) := by
 refine ⟨by rw [splI_len _ _ _ (by rw [prt_len]; omega)]; exact hh, fun j hj => ?_⟩
 rw [splI_nth _ _ _ (by rw [prt_len]; omega), if_neg (by omega), prt_len, if_pos (by omega), prt_nth _ _ _ _ (by omega)]
 unfold kpN
 rw [if_pos (by omega), show 40 + (j - 0) = j + 40 by omega]
set_option maxRecDepth 100000 in
theorem conKeep_yes (h : List Int) (v : Value) (b : List Int) (w : World) (hh : h.length = 80) (hv : Ints w v b) (hl : b.length = 40) :
  Calls Tryz.prog 164 #[.agg (arrI h), v] w (KepE w (kpL h b) (kpE b)) := by
 have IV := hide (fun wr (g : w.grownBy wr none) => Ints_keep hv g)
 obtain ⟨ad, c, rfl, hc, _⟩ := hv
 rw [hl] at IV hc ⊢
 have M0 := hide (show Mem2 w _ 51 51 h (zeros 80) from laid2 w 51 51 h (zeros 80))
 have ZL := hide (zeros_len 80)
 have HH := hide hh
 have HL := hide hl
 have F_ := hide (kpFill_start h b hh)
 have hz := zero_arr z80
 have F := hide (show ∀ w', w.grownBy w' none → KepE w (kpL h b) (kpE b) (.returned (.tuple #[.agg (arrI (kpA h b)), .int .i64 0])) w' from fun w' g => ⟨by rw [(kpL_yes (h := h) hl).1, (kpL_yes (h := h) hl).2], g⟩)
 clear hl hh
 generalize KepE w (kpL h b) (kpE b) = T at *
 generalize zeros 80 = Z at *
 go_enter Tryz.func164, Tryz.ntmps164
 go_upto_region 3 with fail
 generalize (w.alloc (.cells (arrI h) 51)).alloc (.cells (arrI Z) 51) = W0 at *
 clear hz
 refine wp_region_held_drew (S := GrownW w) (by kernel_rfl) (grown_drew M0.out.2.2) (fun hHeld => ?_)
 refine wpAnyH_take (i := 0) (v := .slice (some ⟨w.heap.size, 0, none⟩) 80 80) rfl (by kernel_rfl) (by kernel_rfl) (by kernel_rfl) (fun _ _ _ h => h) (Or.inl ⟨by rfl, ?ykp0⟩) hHeld ?rkp0
 case ykp0 => (intro w' hSw; go_simp; (try with_reducible rfl))
 (try simp only [Act.put, sL])
 refine wpAnyH_take (i := 1) (v := .slice (some ⟨w.heap.size, 40, none⟩) 40 40) rfl (by kernel_rfl) (by kernel_rfl) (by kernel_rfl) (fun _ _ _ h => h) (Or.inl ⟨by rfl, ?ykp1⟩) hHeld ?rkp1
 case ykp1 => (intro w' hSw; go_simp; (try with_reducible rfl))
 (try simp only [Act.put, sL])
 refine wpAnyH_ready (rs := [2]) (by kernel_rfl) (by simp) (AllReadyH.cons rfl (fun K hK => ?_) AllReadyH.nil)
 (try simp only [Act.put, sL])
 refine step_copyK rfl _ _ rfl w.heap.size 0 80 40 80 40 51 h (prt h 40 40) ⟨w.heap.size, 40, none⟩ (M0.out.1.keep (gw_start W0)) rfl rfl (prt_len _ _ _) (by omega) (fun j hj => by rw [Addr.add_mid, prt_nth _ _ _ _ hj]; exact (M0.out.1.keep (gw_start W0)).cell (40 + j) (by rw [HH.out]; omega)) (by rw [HH.out]; omega) ?_
 intro w1 b1 g1
 have B1 := hide b1
 have BB := hide ((M0.out.2.1.keep (gw_start W0)).keepBut g1 (by omega))
 have GM := hide (grown_own hHeld g1 (Nat.le_refl _))
 clear b1 g1 M0 hHeld
 refine hK.out _ _ GM.out (fun hHeld => ?_)
 clear hK
 (try simp only [Act.put, sL])
 refine wpAnyH_take (i := 3) (v := ?vkp3) rfl (by kernel_rfl) (by kernel_rfl) (by kernel_rfl) (fun _ _ _ h => h) (Or.inl ⟨by rfl, ?ykp3⟩) hHeld ?rkp3
 case ykp3 => (intro w' hSw; go_simp; (try with_reducible rfl))
 (try simp only [Act.put, sL])
 refine wpAnyH_done (by kernel_rfl) ?_ _
 have M1 := hide (show Mem2 w w1 51 51 (splI h 0 (prt h 40 40)) Z from ⟨B1.out, BB.out, GM.out⟩)
 clear B1 BB GM hHeld
 generalize splI h 0 (prt h 40 40) = H0 at *
 rw [show goInt ((40 : Nat) : Int) = .int .i64 40 from rfl]
 go_wp2_with fail
 go_loopw [18] (fun i wr => ∃ (m : Nat) (rs : List Int), i = .int .i64 (m : Int) ∧ m ≤ 40 ∧ Hid (FillN 80 (kpN h b) (40 + m) rs) ∧ Hid (Mem2 w wr 51 51 rs Z)) (fun i _ => 40 - (intOf i).toNat)
 case atStart => exact ⟨0, H0, rfl, Nat.zero_le _, F_.out, M1.out⟩
 case round =>
  obtain ⟨m, rs, rfl, hm, hF, hM⟩ := hrel
  clear M1 F_
  by_cases hm40 : m < 40
  ·have i1 : (m : Int) < 40 := by omega
   have rl := hF.out.1
   obtain ⟨a, rfl, cx⟩ := Ints_cell (IV.out wr hM.out.2.2) m (by rw [HL.out]; omega)
   have cd := hM.out.1.cell (40 + m) (by omega)
   have fd := hM.out.1.free (40 + m)
   have NF := hide (fillN_step hF.out (show 40 + m < 80 by omega))
   have EK : kpN h b (40 + m) = c16 (nth b m) := by unfold kpN; rw [if_neg (by omega), show 40 + m - 40 = m by omega]
   rw [EK] at NF
   have NM := hide (hM.out.set1 (40 + m) (c16 (nth b m)))
   have RS := hide (conStopped_any (nth b m) wr)
   clear hF hM IV EK rl
   generalize hk : 40 + m = k at *
   have i3 : (40 : Int) + (m : Int) = (k : Int) := by omega
   have i4 : (k : Int) < 80 := by omega
   have HK := hide hk
   clear hk
   generalize nth b m = x at *
   generalize c16 x = z at *
   generalize nth rs k = y at *
   go_wp2_with fail
   refine RS.out.mono ?_
   rintro e w1 ⟨rfl, rfl⟩
   clear RS
   go_wp2_with fail
   go_roundw
   case rel => exact ⟨m + 1, _, by go_num, by omega, by rw [show 40 + (m + 1) = k + 1 by have := HK.out; omega]; exact NF.out, NM.out⟩
   case measure => first | (simp [intOf]; done) | (simp [intOf]; omega)
  ·obtain rfl : m = 40 := by omega
   rw [show ((40 : Nat) : Int) = 40 from rfl]
   have ers : rs = kpA h b := fillN_all hF.out
   subst ers
   have PU := hM.out.put2 (b' := kpA h b) (by rw [kpA_len, ZL.out])
   have PB := hide PU.1
   have FF := hide (F.out _ PU.2)
   have KL := hide (kpA_len h b)
   have HM := hide hM.out
   clear hF hM PU IV F
   generalize kpA h b = R at *
   go_wp2_with (first | refine wpList_load_arr rfl 51 _ rfl _ rfl _ HM.out.1 _ Tryz.underlying51 rfl (by rw [KL.out]; exact size80c) ?_ | refine wpList_store_arr rfl 51 _ _ rfl _ Z R rfl rfl HM.out.2.1 (by rw [KL.out, ZL.out]) (by rw [ZL.out]; exact size80c) ?_)
   have hlv := loadVar_arr PB.out _ Tryz.underlying51 rfl (by rw [KL.out]; exact size80c)
   refine bodyPost_ret (v := .tuple #[.agg (arrI R), .int .i64 0]) ?_ rfl FF.out
   simp [results, Tryz.results164, asAddr, Act.put, hlv]
theorem conKeep_any (h : List Int) (v : Value) (b : List Int) (w : World) (hh : h.length = 80) (hv : Ints w v b) (hl2 : b.length ≤ 1000000000000000000) :
  Calls Tryz.prog 164 #[.agg (arrI h), v] w (KepE w (kpL h b) (kpE b)) := by
 by_cases hl : b.length = 40
 ·exact conKeep_yes h v b w hh hv hl
 ·exact conKeep_no h v b w hh hv hl hl2
end Go.Proofs.YtdejpongekicdaaGreatDoor
