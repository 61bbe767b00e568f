/- Texts put together: FrontA, FrontWin, LenB, FrontCorr, FrontHigh, HighAny, EncMath, EncT, TopMath, RefDown, IntsA, SameU, LConA, LCodE, DkMath, LDec, LConM, LEnc, DkW, DkA, TopA, KeepC, TopB, OpensT, TopS, DkB, DkC, DkD, DkO, DkL, OpensC, LDkN. -/
import Derived.Test.YtdejpongekicdaaGreatDoorBun1
import Derived.Shelf.Small.Bits
import Derived.Test.YtdejpongekicdaaGreatDoorProg
import Derived.Deep.DrawnRows
import Derived.Deep.RegionHeld
import Derived.RegionTactic
import Derived.Laws.OwnMore
import Derived.BigQuiet
import Derived.Deep.QuietTactic
import Derived.OwnWalk
import Derived.Deep.Cut
import Derived.Maps.OwnSet
import Derived.Deep.Slices
import Derived.Deep.CutRange
/- FrontA -/
namespace Go.Proofs.YtdejpongekicdaaGreatDoor

end Go.Proofs.YtdejpongekicdaaGreatDoor

/- FrontWin -/
namespace Go.Proofs.YtdejpongekicdaaGreatDoor

end Go.Proofs.YtdejpongekicdaaGreatDoor

/- LenB -/
namespace Go.Proofs.YtdejpongekicdaaGreatDoor

end Go.Proofs.YtdejpongekicdaaGreatDoor

/- FrontCorr -/
namespace Go.Proofs.YtdejpongekicdaaGreatDoor

end Go.Proofs.YtdejpongekicdaaGreatDoor

/- FrontHigh -/
namespace Go.Proofs.YtdejpongekicdaaGreatDoor
open Go.RowKit
set_option linter.unusedVariables false
set_option linter.unusedSimpArgs false
set_option maxHeartbeats 1000000
def hp (a b c d : Int) : Obj := .cells #[.int .i64 a, .int .i64 b, .int .i64 c, .int .i64 d] 48
end Go.Proofs.YtdejpongekicdaaGreatDoor

/- HighAny -/
namespace Go.Proofs.YtdejpongekicdaaGreatDoor
open Go.RowKit
set_option linter.unusedVariables false
set_option linter.unusedSimpArgs false
set_option maxHeartbeats 1000000
def okH (x0 x1 y0 y1 : Int) (l : List Int) : Bool := rightB [x0, x1] && rightB [y0, y1] && rightB l
def hiX (x0 x1 : Int) (l : List Int) : List Int := [x1, x0] ++ l
def hiO (x0 x1 y0 y1 : Int) (l : List Int) : List Int := hiY (hiX x0 x1 l) [y1, y0] l.length
def hiL (x0 x1 y0 y1 : Int) (l : List Int) : List Int := if okH x0 x1 y0 y1 l = true then (hiO x0 x1 y0 y1 l).drop 2 else []
end Go.Proofs.YtdejpongekicdaaGreatDoor

/- EncMath -/
namespace Go.Proofs.YtdejpongekicdaaGreatDoor
open Go.RowKit
set_option linter.unusedVariables false
set_option linter.unusedSimpArgs false
def enMm (e : List Int) : List Int := prt e 124 101
def enC (e l : List Int) : List Int := hiL (nth e 0) (nth e 1) (nth e 2) (nth e 3) l
def enI (e l : List Int) : List Int := prt e 84 40 ++ enC e l
def enHE (e l : List Int) : Bool := okH (nth e 0) (nth e 1) (nth e 2) (nth e 3) l
abbrev enOk (e l : List Int) : Prop := l.length = 80 ∧ goodM (enMm e) = true ∧ enHE e l = true ∧ rightB (enI e l) = true
end Go.Proofs.YtdejpongekicdaaGreatDoor

/- EncT -/
namespace Go.Proofs.YtdejpongekicdaaGreatDoor
open Go.RowKit
set_option linter.unusedVariables false
set_option linter.unusedSimpArgs false
def EnQ (w : World) (e : List Int) (s : Bool) (wr : World) : Prop := BlkE wr w.heap.size e s ∧ BlkE wr (w.heap.size + 1) (zeros 225) false ∧ w.grownBy wr none
theorem EnQ.new (w : World) (e : List Int) (s : Bool) : EnQ w e s ((w.alloc (.cells (encC e s).toArray 55)).alloc (.cells (encC (zeros 225) false).toArray 55)) := by
  refine ⟨(BlkE.new w e s).keep (grown_alloc _ _ none), ?_, grown_none (grown_alloc _ _ none) (grown_alloc _ _ none)⟩
  have := BlkE.new (w.alloc (.cells (encC e s).toArray 55)) (zeros 225) false
  simpa using this
theorem EnQ.keep {w : World} {e : List Int} {s : Bool} {wr wr' : World} (h : EnQ w e s wr) (g : wr.grownBy wr' none) : EnQ w e s wr' := ⟨h.1.keep g, h.2.1.keep g, grown_none h.2.2 g⟩
def ENT (W : World) (bp bn bm : Nat) (p now m : List Int) (s : Bool) (wr : World) : Prop := W.grownBy wr none ∧ BlkI wr bp 82 p ∧ Blk wr bn 50 now ∧ BlkM wr bm m s
theorem ENT.keep {W : World} {bp bn bm : Nat} {p now m : List Int} {s : Bool} {wr wr' : World} (h : ENT W bp bn bm p now m s wr) (g : wr.grownBy wr' none) : ENT W bp bn bm p now m s wr' := ⟨grown_none h.1 g, h.2.1.keep g, h.2.2.1.keep g, h.2.2.2.keep g⟩
structure NB3 (W : World) (bp bn bm : Nat) : Prop where
  a : W.heap.size ≤ bp
  b : bp < bn
  c : bn < bm
theorem ENT.mem {W : World} {bp bn bm : Nat} {p now m m' : List Int} {s s' : Bool} {wr wr' : World} (h : ENT W bp bn bm p now m s wr) (n : NB3 W bp bn bm) (hb : BlkM wr' bm m' s') (g : wr.grownBy wr' (some bm)) : ENT W bp bn bm p now m' s' wr' := by
  have := n.a
  have := n.b
  have := n.c
  exact ⟨grown_own h.1 g (by omega), h.2.1.keepBut g (by omega), h.2.2.1.keepBut g (by omega), hb⟩
end Go.Proofs.YtdejpongekicdaaGreatDoor

/- TopMath -/
namespace Go.Proofs.YtdejpongekicdaaGreatDoor
open Go.RowKit
set_option linter.unusedVariables false
set_option linter.unusedSimpArgs false
structure GoodE (e : List Int) : Prop where
  len : e.length = 225
  mem : goodM (enMm e) = true
  hp : ∀ i, i < 4 → -32768 ≤ nth e i ∧ nth e i ≤ 32767
  inp : rightB (prt e 4 120) = true
end Go.Proofs.YtdejpongekicdaaGreatDoor

/- RefDown -/
namespace Go.Proofs.YtdejpongekicdaaGreatDoor

end Go.Proofs.YtdejpongekicdaaGreatDoor

/- IntsA -/
namespace Go.Proofs.YtdejpongekicdaaGreatDoor
open Go.RowKit
set_option linter.unusedVariables false
set_option linter.unusedSimpArgs false
set_option maxHeartbeats 1000000
theorem ints_any (v : Value) (l : List Int) (w : World) (h : Ints w v l) (hl : l.length * 8 ≤ 140737488355328) :
    Calls Tryz.prog 26 #[v] w (Lists w l) := by
  obtain ⟨ad, c, rfl, hc, hcell⟩ := h
  obtain ⟨i0, hi, hz0, hz1, hz2⟩ := info_parts infoI64
  rcases ad with _ | a
  · have h0 : l.length = 0 := by
      rcases Nat.eq_zero_or_pos l.length with h | h
      · exact h
      · obtain ⟨a, e, _⟩ := hcell h
        cases e
    have F := hide (show Lists w l (.returned (.slice none 0 0)) w from ⟨_, rfl, by rw [h0, List.length_eq_zero_iff.1 h0]; exact World.ownsRow_nil _ _ _ _, grown_refl _ _⟩)
    rw [h0]
    generalize Lists w l = T at *
    clear hcell hl
    go_enter Tryz.func26, Tryz.ntmps26
    go_wp2_with fail
    exact F.out
  · have hnews : Hid (∀ j u, (l.map (Value.int .i64))[j]? = some u → w.cell? (a.add j) = some u) := by
      intro j u h
      have hj : j < l.length := by
        by_cases hj : j < l.length
        · exact hj
        · rw [List.getElem?_eq_none (by simp; omega)] at h; cases h
      obtain ⟨a', e, hv⟩ := hcell (by omega)
      cases e
      rw [hv j hj]
      simpa [nth, List.getD, hj] using h
    have hone : Hid (∀ u ∈ l.map (Value.int .i64), u.oneCell' = true) := by
      intro u hu
      obtain ⟨x, _, rfl⟩ := List.mem_map.1 hu
      rfl
    have FIN := hide (show ∀ v' w1, w1.ownsRow w.heap.size 3 1 v' l.length (l.map (Value.int .i64)) → w.grownBy w1 none → Lists w l (.returned v') w1 from fun v' w1 h1 h2 => ⟨v', rfl, h1, h2⟩)
    clear hcell
    generalize Lists w l = T at *
    go_enter Tryz.func26, Tryz.ntmps26
    go_wp2_with (at_builtin; refine wpList_append_own _ rfl _ _ 26 rfl w.heap.size 3 i0 (.int .i64 0) 1 8 Tryz.underlying26 hi hz0 hz1 hz2 rfl (by decide) _ 0 [] rfl (World.ownsRow_nil _ _ _ _) a l.length c (l.map (Value.int .i64)) rfl ?c1 hnews.out hone.out ?c2 ?c3 (Nat.le_refl _) ?_)
    case c1 => simp
    case c2 => unfold maxLen; omega
    case c3 => omega
    intro v' w1 h1 h2 h3
    have F := hide (FIN.out v' w1 (by simpa using h1) h2)
    clear h1 h2 h3 FIN hnews hone
    go_wp2_with fail
    exact F.out
end Go.Proofs.YtdejpongekicdaaGreatDoor

/- SameU -/
namespace Go.Proofs.YtdejpongekicdaaGreatDoor

end Go.Proofs.YtdejpongekicdaaGreatDoor

/- LConA -/
namespace Go.Proofs.YtdejpongekicdaaGreatDoor

end Go.Proofs.YtdejpongekicdaaGreatDoor

/- LCodE -/
namespace Go.Proofs.YtdejpongekicdaaGreatDoor

end Go.Proofs.YtdejpongekicdaaGreatDoor

/- DkMath -/
namespace Go.Proofs.YtdejpongekicdaaGreatDoor
open Go.RowKit
set_option linter.unusedVariables false
set_option linter.unusedSimpArgs false
structure Ses where
  e : List Int
  t : Bool
  m : List Int
  u : Bool
structure SesOk (s : Ses) : Prop where
  ge : GoodE s.e
  ml : s.m.length = 101
  mg : goodM s.m = true
structure Cl where
  k : Int
  v : Int
  r : Bool
  l : List Int
  b : List Int
end Go.Proofs.YtdejpongekicdaaGreatDoor

/- LDec -/
namespace Go.Proofs.YtdejpongekicdaaGreatDoor

end Go.Proofs.YtdejpongekicdaaGreatDoor

/- LConM -/
namespace Go.Proofs.YtdejpongekicdaaGreatDoor

end Go.Proofs.YtdejpongekicdaaGreatDoor

/- LEnc -/
namespace Go.Proofs.YtdejpongekicdaaGreatDoor

end Go.Proofs.YtdejpongekicdaaGreatDoor

/- DkW -/
namespace Go.Proofs.YtdejpongekicdaaGreatDoor
open Go.RowKit
set_option linter.unusedVariables false
set_option linter.unusedSimpArgs false
def ptrE : Value → Option (DataW Unit × List MemPlace)
  | .pointer none => some (.nil, [])
  | .pointer (some ⟨b, 0, none⟩) => some (.lit (.int .i64 b), [])
  | _ => none
def sesC (s : Ses) : List Value := encC s.e s.t ++ memC s.m s.u
def atD (F : Int → Option Ses) (bl : Int → Nat) (v : Int) : DataW Unit := match F v with | none => .nil | some _ => .lit (.int .i64 (bl v))
structure DkI (w : World) (d : Nat) (F : Int → Option Ses) (n : Nat) (Z : Nat → Prop) (mb : Nat) (D : DataW Unit) (bl : Int → Nat) : Prop where
  dk : BlkV w d 70 [.map (some mb)]
  mp : w.ownsMap Tryz.prog 3 ptrE mb n D
  sz : Maps.size D = n
  hs : ∀ v, Maps.has D (.int .i64 v) = (F v).isSome
  at' : ∀ v, D.atKey (.int .i64 v) .nil = atD F bl v
  bk : ∀ v s, F v = some s → BlkV w (bl v) 134 (sesC s) ∧ Z (bl v)
  ne : ∀ u v s t, F u = some s → F v = some t → bl u = bl v → u = v
  zd : Z d
  zm : Z mb
  zl : ∀ b, Z b → b < w.heap.size
  ok : ∀ v s, F v = some s → SesOk s
def DkW (w : World) (d : Nat) (F : Int → Option Ses) (n : Nat) (Z : Nat → Prop) : Prop := ∃ (mb : Nat) (D : DataW Unit) (bl : Int → Nat), DkI w d F n Z mb D bl
theorem DkI.keepR {w w' : World} {d : Nat} {F : Int → Option Ses} {n : Nat} {Z : Nat → Prop} {mb : Nat} {D : DataW Unit} {bl : Int → Nat} {r : Option Nat} (h : DkI w d F n Z mb D bl) (g : w.grownBy w' r) (hr : ∀ b, r = some b → ¬ Z b) : DkI w' d F n Z mb D bl :=
  have key : ∀ b T cs, Z b → BlkV w b T cs → BlkV w' b T cs := fun b T cs hz hb => (g.block _ (lt_of_some hb) (fun e => hr b e.symm hz)).trans hb
  ⟨key _ _ _ h.zd h.dk, h.mp.kept g (fun e => hr mb e.symm h.zm), h.sz, h.hs, h.at', fun v s hv => ⟨key _ _ _ (h.bk v s hv).2 (h.bk v s hv).1, (h.bk v s hv).2⟩, h.ne, h.zd, h.zm, fun b hb => Nat.lt_of_lt_of_le (h.zl b hb) g.size, h.ok⟩
theorem DkI.keep {w w' : World} {d : Nat} {F : Int → Option Ses} {n : Nat} {Z : Nat → Prop} {mb : Nat} {D : DataW Unit} {bl : Int → Nat} (h : DkI w d F n Z mb D bl) (g : w.grownBy w' none) : DkI w' d F n Z mb D bl := h.keepR g (fun b e => by cases e)
theorem DkW.keepR {w w' : World} {d : Nat} {F : Int → Option Ses} {n : Nat} {Z : Nat → Prop} {r : Option Nat} (h : DkW w d F n Z) (g : w.grownBy w' r) (hr : ∀ b, r = some b → ¬ Z b) : DkW w' d F n Z := by
  obtain ⟨mb, D, bl, i⟩ := h
  exact ⟨mb, D, bl, i.keepR g hr⟩
theorem DkW.keep {w w' : World} {d : Nat} {F : Int → Option Ses} {n : Nat} {Z : Nat → Prop} (h : DkW w d F n Z) (g : w.grownBy w' none) : DkW w' d F n Z := h.keepR g (fun b e => by cases e)
theorem DkW.zl {w : World} {d : Nat} {F : Int → Option Ses} {n : Nat} {Z : Nat → Prop} (h : DkW w d F n Z) : ∀ b, Z b → b < w.heap.size := by
  obtain ⟨mb, D, bl, i⟩ := h
  exact i.zl
theorem DkI.len {w : World} {d : Nat} {F : Int → Option Ses} {n : Nat} {Z : Nat → Prop} {mb : Nat} {D : DataW Unit} {bl : Int → Nat} (h : DkI w d F n Z mb D bl) (ty : TypeId) :
    (Builtin.len_ #[68] ty #[.map (some mb)]).run Tryz.prog w = .ok (.int .i64 n) w := by
  rw [h.mp.len Tryz.underlying68 ty, h.sz]
def clV (c : Cl) (vs vb : Value) : Value := .agg #[.int .i64 c.k, .int .i64 c.v, .bool c.r, vs, vb]
structure ClOk (w : World) (c : Cl) (vs vb : Value) : Prop where
  hk : In1 c.k
  hv : In1 c.v
  il : Ints w vs c.l
  sl : Shp vs c.l
  ll : In64 c.l
  nl : c.l.length * 8 ≤ 140737488351232
  ib : Byts w vb c.b
  sb : Shp vb c.b
  bb : byB c.b
  nb : c.b.length ≤ 140737488351232
def ansV (en v : Int) (vb vl : Value) : Value := .agg #[.int .i64 en, .int .i64 v, vb, vl]
end Go.Proofs.YtdejpongekicdaaGreatDoor

/- DkA -/
namespace Go.Proofs.YtdejpongekicdaaGreatDoor
open Go.RowKit
set_option linter.unusedVariables false
set_option linter.unusedSimpArgs false
set_option maxHeartbeats 4000000
def ansC (en v : Int) (vb vl : Value) : List Value := [.int .i64 en, .int .i64 v, vb, vl]
theorem ansC_len (en v : Int) (vb vl : Value) : (ansC en v vb vl).length = 4 := rfl
theorem ansC_one (en v : Int) (b : Option Addr) (m d : Nat) (a : Option Addr) (n c : Nat) : ∀ x ∈ ansC en v (.slice b m d) (.slice a n c), x.oneCell' = true := by
  intro x hx
  simp [ansC] at hx
  rcases hx with rfl | rfl | rfl | rfl <;> rfl
theorem zAns (u : World) : Sem.run Tryz.prog (zeroValue 34) u = .ok (.agg (ansC 0 0 (.slice none 0 0) (.slice none 0 0)).toArray) u := by kernel_rfl
theorem build_ansE (e : Int) (u : World) : Sem.run Tryz.prog (Instr.build 34 #[(0, .int .i64 e)]) u = .ok (.agg (ansC e 0 (.slice none 0 0) (.slice none 0 0)).toArray) u := by kernel_rfl
theorem size4a : (Tryz.prog.info? 34).map (·.size) = some 4 := by kernel_rfl
theorem loadA {W : World} {b : Nat} {en v : Int} {vb vl : Value} (h : BlkV W b 34 (ansC en v vb vl)) : Sem.run Tryz.prog (loadVar 34 ⟨b, 0, none⟩) W = .ok (.agg (ansC en v vb vl).toArray) W :=
  loadVar_v h _ Tryz.underlying34 rfl size4a
theorem ansP {W : World} {b : Nat} {en v en' v' : Int} {vb vl vb' vl' : Value} (h : BlkV W b 34 (ansC en v vb vl)) : BlkV (putV W b 0 (ansC en' v' vb' vl')) b 34 (ansC en' v' vb' vl') ∧ W.grownBy (putV W b 0 (ansC en' v' vb' vl')) (some b) := by
  have := put_v h 0 (ansC en' v' vb' vl') (by simp [ansC_len])
  rwa [splV_all (ansC en v vb vl) (ansC en' v' vb' vl') rfl] at this
theorem ans_new (w : World) (en v : Int) (vb vl : Value) : BlkV (w.alloc (.cells (ansC en v vb vl).toArray 34)) w.heap.size 34 (ansC en v vb vl) := BlkV.new _ _ _
end Go.Proofs.YtdejpongekicdaaGreatDoor

/- TopA -/
namespace Go.Proofs.YtdejpongekicdaaGreatDoor

end Go.Proofs.YtdejpongekicdaaGreatDoor

/- KeepC -/
namespace Go.Proofs.YtdejpongekicdaaGreatDoor

end Go.Proofs.YtdejpongekicdaaGreatDoor

/- TopB -/
namespace Go.Proofs.YtdejpongekicdaaGreatDoor

end Go.Proofs.YtdejpongekicdaaGreatDoor

/- OpensT -/
namespace Go.Proofs.YtdejpongekicdaaGreatDoor

end Go.Proofs.YtdejpongekicdaaGreatDoor

/- TopS -/
namespace Go.Proofs.YtdejpongekicdaaGreatDoor

end Go.Proofs.YtdejpongekicdaaGreatDoor

/- DkB -/
namespace Go.Proofs.YtdejpongekicdaaGreatDoor

end Go.Proofs.YtdejpongekicdaaGreatDoor

/- DkC -/
namespace Go.Proofs.YtdejpongekicdaaGreatDoor
open Go.RowKit
set_option linter.unusedVariables false
set_option linter.unusedSimpArgs false
set_option maxHeartbeats 4000000
theorem dkMany_nil (w : World) : Calls Tryz.prog 12 #[.pointer none] w fun x w' => x = .returned (.int .i64 0) ∧ w' = w := by
  go_enter Tryz.func12, Tryz.ntmps12
  go_wp2_with fail
  go_ret
  exact ⟨rfl, rfl⟩
end Go.Proofs.YtdejpongekicdaaGreatDoor

/- DkD -/
namespace Go.Proofs.YtdejpongekicdaaGreatDoor
open Go.RowKit
set_option linter.unusedVariables false
set_option linter.unusedSimpArgs false
set_option maxHeartbeats 4000000
theorem shp_sl {v : Value} {l : List Int} (h : Shp v l) : ∃ a n c, v = .slice a n c := by
  rcases h with h | ⟨a, c, h⟩
  · exact ⟨_, _, _, h⟩
  · exact ⟨_, _, _, h⟩
def clC (c : Cl) (vs vb : Value) : List Value := [.int .i64 c.k, .int .i64 c.v, .bool c.r, vs, vb]
structure AsS (w : World) (c : Cl) (vs vb : Value) (W0 : World) : Prop where
  cl : BlkV W0 w.heap.size 37 (clC c vs vb)
  an : BlkV W0 (w.heap.size + 1) 34 (ansC 0 0 (.slice none 0 0) (.slice none 0 0))
  gr : w.grownBy W0 none
theorem AsS.new (w : World) (c : Cl) (vs vb : Value) : AsS w c vs vb ((w.alloc (.cells (clC c vs vb).toArray 37)).alloc (.cells (ansC 0 0 (.slice none 0 0) (.slice none 0 0)).toArray 34)) :=
  ⟨(BlkV.new w 37 (clC c vs vb)).keep (grown_alloc _ _ none), by have := ans_new (w.alloc (.cells (clC c vs vb).toArray 37)) 0 0 (.slice none 0 0) (.slice none 0 0); simpa using this, grown_none (grown_alloc w _ none) (grown_alloc _ _ none)⟩
theorem AsS.keep {w : World} {c : Cl} {vs vb : Value} {W0 W1 : World} (h : AsS w c vs vb W0) (g : W0.grownBy W1 none) : AsS w c vs vb W1 := ⟨h.cl.keep g, h.an.keep g, grown_none h.gr g⟩
theorem AsS.size {w : World} {c : Cl} {vs vb : Value} {W0 : World} (h : AsS w c vs vb W0) : w.heap.size + 1 < W0.heap.size := h.an.lt
end Go.Proofs.YtdejpongekicdaaGreatDoor

/- DkO -/
namespace Go.Proofs.YtdejpongekicdaaGreatDoor
open Go.RowKit
set_option linter.unusedVariables false
set_option linter.unusedSimpArgs false
set_option maxHeartbeats 4000000
theorem clOk_keep {w w' : World} {c : Cl} {vs vb : Value} (h : ClOk w c vs vb) (g : w.grownBy w' none) : ClOk w' c vs vb := ⟨h.hk, h.hv, Ints_keep h.il g, h.sl, h.ll, h.nl, Byts_keep h.ib g, h.sb, h.bb, h.nb⟩
theorem size5c : (Tryz.prog.info? 37).map (·.size) = some 5 := by kernel_rfl
set_option maxRecDepth 100000 in
theorem dkAnswered_nil (c : Cl) (a1 : Option Addr) (n1 c1 : Nat) (a2 : Option Addr) (n2 c2 : Nat) (w : World) : Calls Tryz.prog 25 #[.pointer none, clV c (.slice a1 n1 c1) (.slice a2 n2 c2)] w fun x w' => x = .returned (ansV 6 0 (.slice none 0 0) (.slice none 0 0)) ∧ w.grownBy w' none := by
  have hz := zAns
  have AS := hide (AsS.new w c (.slice a1 n1 c1) (.slice a2 n2 c2))
  have F := hide (show ∀ w', w.grownBy w' none → (fun (x : Ending) (w' : World) => x = .returned (ansV 6 0 (.slice none 0 0) (.slice none 0 0)) ∧ w.grownBy w' none) (.returned (.agg (ansC 6 0 (.slice none 0 0) (.slice none 0 0)).toArray)) w' from fun w' q => ⟨rfl, q⟩)
  generalize (fun (x : Ending) (w' : World) => x = .returned (ansV 6 0 (.slice none 0 0) (.slice none 0 0)) ∧ w.grownBy w' none) = T at *
  have be := build_ansE 6
  unfold clV
  go_enter Tryz.func25, Tryz.ntmps25
  go_upto_region 1 with fail
  change Code.wp _ _ _ _ ((w.alloc (.cells (clC c (.slice a1 n1 c1) (.slice a2 n2 c2)).toArray 37)).alloc (.cells (ansC 0 0 (.slice none 0 0) (.slice none 0 0)).toArray 34))
  generalize (w.alloc (.cells (clC c (.slice a1 n1 c1) (.slice a2 n2 c2)).toArray 37)).alloc (.cells (ansC 0 0 (.slice none 0 0) (.slice none 0 0)).toArray 34) = W0 at *
  have P := ansP (en' := 6) (v' := 0) (vb' := (.slice none 0 0)) (vl' := (.slice none 0 0)) AS.out.an
  have hlv := loadA P.1
  have FF := hide (F.out _ (grown_own AS.out.gr P.2 (by omega)))
  have AA := hide AS.out.an
  have O1 := hide (ansC_one 6 0 none 0 0 none 0 0)
  clear P F AS
  go_wp2_with (first | refine wpList_store_v rfl 34 _ _ rfl (w.heap.size + 1) 0 34 (ansC 0 0 (.slice none 0 0) (.slice none 0 0)) (ansC 6 0 (.slice none 0 0) (.slice none 0 0)) rfl rfl AA.out (by simp [ansC_len]) size4a O1.out ?_)
  refine bodyPost_ret (v := .agg (ansC 6 0 (.slice none 0 0) (.slice none 0 0)).toArray) ?_ rfl FF.out
  simp [results, Tryz.results25, asAddr, Act.put, hlv]
set_option maxRecDepth 100000 in
theorem dkDo_gen (p : Option Addr) (c : Cl) (a1 : Option Addr) (n1 c1 : Nat) (a2 : Option Addr) (n2 c2 : Nat) (w : World) (Q : World → Ending → World → Prop) (T : Ending → World → Prop) (CA : ∀ W0, w.grownBy W0 none → Calls Tryz.prog 25 #[.pointer p, clV c (.slice a1 n1 c1) (.slice a2 n2 c2)] W0 (Q W0))
    (EX : ∀ W0 x W1, w.grownBy W0 none → Q W0 x W1 → ∃ en a m k a' m' k', x = .returned (ansV en 0 (.slice a m k) (.slice a' m' k')))
    (BK : ∀ W0 x W1 T cs A, w.grownBy W0 none → Q W0 x W1 → w.heap.size ≤ A → BlkV W0 A T cs → BlkV W1 A T cs)
    (FN : ∀ W0 W1 W2 en a m k a' m' k', w.grownBy W0 none → w.heap.size + 1 < W0.heap.size → Q W0 (.returned (ansV en 0 (.slice a m k) (.slice a' m' k'))) W1 → W1.grownBy W2 none → BlkV W2 (w.heap.size + 1) 34 (ansC 0 0 (.slice none 0 0) (.slice none 0 0)) → T (.returned (.agg (ansC en c.v (.slice a m k) (.slice a' m' k')).toArray)) (putV W2 (w.heap.size + 1) 0 (ansC en c.v (.slice a m k) (.slice a' m' k')))) :
    Calls Tryz.prog 9 #[.pointer p, clV c (.slice a1 n1 c1) (.slice a2 n2 c2)] w T := by
  have hz := zAns
  have AS := hide (AsS.new w c (.slice a1 n1 c1) (.slice a2 n2 c2))
  unfold clV
  go_enter Tryz.func9, Tryz.ntmps9
  go_upto_region 1 with fail
  change Code.wp _ _ _ _ ((w.alloc (.cells (clC c (.slice a1 n1 c1) (.slice a2 n2 c2)).toArray 37)).alloc (.cells (ansC 0 0 (.slice none 0 0) (.slice none 0 0)).toArray 34))
  generalize (w.alloc (.cells (clC c (.slice a1 n1 c1) (.slice a2 n2 c2)).toArray 37)).alloc (.cells (ansC 0 0 (.slice none 0 0) (.slice none 0 0)).toArray 34) = W0 at *
  have C1 := hide (CA W0 AS.out.gr)
  have EX1 := hide (fun x W1 q => EX W0 x W1 AS.out.gr q)
  have BC1 := hide (fun x W1 q => BK W0 x W1 _ _ _ AS.out.gr q (Nat.le_refl _) AS.out.cl)
  have BA1 := hide (fun x W1 q => BK W0 x W1 _ _ _ AS.out.gr q (by omega) AS.out.an)
  have FN1 := hide (fun W1 W2 en a m k a' m' k' => FN W0 W1 W2 en a m k a' m' k' AS.out.gr AS.out.size)
  have LS := hide AS.out.size
  clear CA EX BK FN
  generalize Q W0 = QT at *
  unfold clV at C1
  go_wp2_with (first | refine wpList_load_v rfl 37 _ rfl w.heap.size 0 5 rfl 37 (clC c (.slice a1 n1 c1) (.slice a2 n2 c2)) AS.out.cl _ Tryz.underlying37 rfl size5c (by simp [clC]) _ rfl ?_)
  refine C1.out.mono ?_
  intro x W1 q
  obtain ⟨en, a, m, k, a', m', k', rfl⟩ := EX1.out x W1 q
  have CB := hide (BC1.out _ W1 q)
  have AB := hide (BA1.out _ W1 q)
  have N0 := hide (ans_new W1 0 0 (.slice none 0 0) (.slice none 0 0))
  have P := ansP (en' := en) (v' := 0) (vb' := .slice a m k) (vl' := .slice a' m' k') N0.out
  have N1 := hide P.1
  have G1 := hide (grown_own (grown_alloc W1 (.cells (ansC 0 0 (.slice none 0 0) (.slice none 0 0)).toArray 34) none) P.2 (Nat.le_refl _))
  have O0 := hide (ansC_one en 0 a m k a' m' k')
  have O1 := hide (ansC_one en c.v a m k a' m' k')
  have FN2 := hide (fun W2 g A => FN1.out W1 W2 en a m k a' m' k' q g A)
  have LT := hide AB.out.lt
  clear C1 EX1 BC1 BA1 FN1 q P AS
  unfold ansV
  go_upto_region 2 with (first | refine wpList_store_v rfl 34 _ _ rfl W1.heap.size 0 34 (ansC 0 0 (.slice none 0 0) (.slice none 0 0)) (ansC en 0 (.slice a m k) (.slice a' m' k')) rfl rfl N0.out (by simp [ansC_len]) size4a O0.out ?_)
  (try simp only [Act.put])
  clear N0
  have CB2 := hide (CB.out.keep G1.out)
  have AB2 := hide (AB.out.keep G1.out)
  clear CB AB
  generalize putV (W1.alloc (.cells (ansC 0 0 (.slice none 0 0) (.slice none 0 0)).toArray 34)) W1.heap.size 0 (ansC en 0 (.slice a m k) (.slice a' m' k')) = W2 at *
  have N2 := hide (show BlkV (W2.setCell ⟨W1.heap.size, 1, none⟩ (.int .i64 c.v)) W1.heap.size 34 (ansC en c.v (.slice a m k) (.slice a' m' k')) from N1.out.set 1 (.int .i64 c.v))
  have G2 := hide (grown_own G1.out (grown_setCell W2 ⟨W1.heap.size, 1, none⟩ (.int .i64 c.v)) (Nat.le_refl _))
  have AB3 := hide (AB2.out.keepBut (grown_setCell W2 ⟨W1.heap.size, 1, none⟩ (.int .i64 c.v)) (by have := LT.out; show _ ≠ W1.heap.size; omega))
  have kc1 := BlkV.cell CB2.out 1
  have na1 := BlkV.cell N1.out 1
  have nf1 := BlkV.free N1.out 1
  simp [clC] at kc1
  simp [ansC] at na1
  generalize W1.heap.size = bn at *
  go_upto_region 3 with fail
  clear kc1 na1 nf1 CB2 N1 AB2 G1
  generalize W2.setCell ⟨bn, 1, none⟩ (.int .i64 c.v) = W3 at *
  have P := ansP (en' := en) (v' := c.v) (vb' := .slice a m k) (vl' := .slice a' m' k') AB3.out
  have hlv := loadA P.1
  have FF := hide (FN2.out W3 G2.out AB3.out)
  clear P FN2 G2
  go_wp2_with (first | refine wpList_load_v rfl 34 _ rfl bn 0 4 rfl 34 (ansC en c.v (.slice a m k) (.slice a' m' k')) N2.out _ Tryz.underlying34 rfl size4a (by simp [ansC_len]) _ rfl ?_ | refine wpList_store_v rfl 34 _ _ rfl (w.heap.size + 1) 0 34 (ansC 0 0 (.slice none 0 0) (.slice none 0 0)) (ansC en c.v (.slice a m k) (.slice a' m' k')) rfl rfl AB3.out (by simp [ansC_len]) size4a O1.out ?_)
  refine bodyPost_ret (v := .agg (ansC en c.v (.slice a m k) (.slice a' m' k')).toArray) ?_ rfl FF.out
  simp [results, Tryz.results9, asAddr, Act.put, hlv]
theorem dkDo_nil (c : Cl) (a1 : Option Addr) (n1 c1 : Nat) (a2 : Option Addr) (n2 c2 : Nat) (w : World) : Calls Tryz.prog 9 #[.pointer none, clV c (.slice a1 n1 c1) (.slice a2 n2 c2)] w fun x w' => x = .returned (ansV 6 c.v (.slice none 0 0) (.slice none 0 0)) ∧ w.grownBy w' none := by
  refine dkDo_gen none c a1 n1 c1 a2 n2 c2 w (fun W0 x W1 => x = .returned (ansV 6 0 (.slice none 0 0) (.slice none 0 0)) ∧ W0.grownBy W1 none) _ (fun W0 g => dkAnswered_nil c a1 n1 c1 a2 n2 c2 W0) (fun W0 x W1 g q => ⟨6, none, 0, 0, none, 0, 0, q.1⟩) (fun W0 x W1 T cs A g q hA hb => hb.keep q.2) (fun W0 W1 W2 en a m k a' m' k' g hs q g2 hA => ?_)
  have e := q.1
  unfold ansV at e
  simp only [Ending.returned.injEq, Value.agg.injEq, Array.mk.injEq, List.cons.injEq, Value.int.injEq, true_and, and_true] at e
  obtain ⟨e1, e2, e3⟩ := e
  rw [e2, e3, e1]
  exact ⟨rfl, grown_own (grown_none (grown_none g q.2) g2) (ansP hA).2 (by omega)⟩
end Go.Proofs.YtdejpongekicdaaGreatDoor

/- DkL -/
namespace Go.Proofs.YtdejpongekicdaaGreatDoor
open Go.RowKit
set_option linter.unusedVariables false
set_option linter.unusedSimpArgs false
set_option maxHeartbeats 4000000
theorem zCall (u : World) : Sem.run Tryz.prog (zeroValue 37) u = .ok (.agg (clC ⟨0, 0, false, [], []⟩ (.slice none 0 0) (.slice none 0 0)).toArray) u := by kernel_rfl
theorem clC_one (c : Cl) (a1 : Option Addr) (n1 c1 : Nat) (a2 : Option Addr) (n2 c2 : Nat) : ∀ x ∈ clC c (.slice a1 n1 c1) (.slice a2 n2 c2), x.oneCell' = true := by
  intro x hx
  simp [clC] at hx
  rcases hx with rfl | rfl | rfl | rfl | rfl <;> rfl
theorem loadC {W : World} {b : Nat} {c : Cl} {vs vb : Value} (h : BlkV W b 37 (clC c vs vb)) : Sem.run Tryz.prog (loadVar 37 ⟨b, 0, none⟩) W = .ok (.agg (clC c vs vb).toArray) W :=
  loadVar_v h _ Tryz.underlying37 rfl size5c
theorem clP {W : World} {b : Nat} {c c' : Cl} {vs vb vs' vb' : Value} (h : BlkV W b 37 (clC c vs vb)) : BlkV (putV W b 0 (clC c' vs' vb')) b 37 (clC c' vs' vb') ∧ W.grownBy (putV W b 0 (clC c' vs' vb')) (some b) := by
  have := put_v h 0 (clC c' vs' vb') (by simp [clC])
  rwa [splV_all (clC c vs vb) (clC c' vs' vb') rfl] at this
def ClE (w : World) (c : Cl) (x : Ending) (w' : World) : Prop := ∃ a1 n1 c1 a2 n2 c2, x = .returned (clV c (.slice a1 n1 c1) (.slice a2 n2 c2)) ∧ ClOk w' c (.slice a1 n1 c1) (.slice a2 n2 c2) ∧ Own w.heap.size w' (.slice a1 n1 c1) c.l ∧ OwnB w.heap.size w' (.slice a2 n2 c2) c.b ∧ w.grownBy w' none
theorem clE_fin {w w' : World} {c : Cl} {vs vb : Value} {a1 : Option Addr} {n1 c1 : Nat} {a2 : Option Addr} {n2 c2 : Nat} (h : ClOk w c vs vb) (o1 : Own w.heap.size w' (.slice a1 n1 c1) c.l) (o2 : OwnB w.heap.size w' (.slice a2 n2 c2) c.b) (g : w.grownBy w' none) : ClE w c (.returned (.agg (clC c (.slice a1 n1 c1) (.slice a2 n2 c2)).toArray)) w' :=
  ⟨a1, n1, c1, a2, n2, c2, rfl, ⟨h.hk, h.hv, o1.ints, o1.shp, h.ll, h.nl, o2.byts, o2.shp, h.bb, h.nb⟩, o1, o2, g⟩
set_option maxRecDepth 100000 in
theorem call_voxsatlaw (c : Cl) (a1 : Option Addr) (n1 c1 : Nat) (a2 : Option Addr) (n2 c2 : Nat) (w : World) (h : ClOk w c (.slice a1 n1 c1) (.slice a2 n2 c2)) : Calls Tryz.prog 10 #[clV c (.slice a1 n1 c1) (.slice a2 n2 c2)] w (ClE w c) := by
  have hz := zCall
  have FN := hide (fun w' a1 n1 c1 a2 n2 c2 (o1 : Own w.heap.size w' (.slice a1 n1 c1) c.l) (o2 : OwnB w.heap.size w' (.slice a2 n2 c2) c.b) g => clE_fin h o1 o2 g)
  have C0 := hide ((BlkV.new w 37 (clC c (.slice a1 n1 c1) (.slice a2 n2 c2))).keep (grown_alloc _ (.cells (clC ⟨0, 0, false, [], []⟩ (.slice none 0 0) (.slice none 0 0)).toArray 37) none))
  have R0 := hide (show BlkV ((w.alloc (.cells (clC c (.slice a1 n1 c1) (.slice a2 n2 c2)).toArray 37)).alloc (.cells (clC ⟨0, 0, false, [], []⟩ (.slice none 0 0) (.slice none 0 0)).toArray 37)) (w.heap.size + 1) 37 (clC ⟨0, 0, false, [], []⟩ (.slice none 0 0) (.slice none 0 0)) from by have := BlkV.new (w.alloc (.cells (clC c (.slice a1 n1 c1) (.slice a2 n2 c2)).toArray 37)) 37 (clC ⟨0, 0, false, [], []⟩ (.slice none 0 0) (.slice none 0 0)); simpa using this)
  have G0 := hide (grown_none (grown_alloc w (.cells (clC c (.slice a1 n1 c1) (.slice a2 n2 c2)).toArray 37) none) (grown_alloc _ (.cells (clC ⟨0, 0, false, [], []⟩ (.slice none 0 0) (.slice none 0 0)).toArray 37) none))
  have IL := hide (Ints_keep h.il G0.out)
  have IB := hide (Byts_keep h.ib G0.out)
  have SL := hide h.sl
  have SB := hide h.sb
  have NL := hide h.nl
  have NB := hide h.nb
  have IBW := hide h.ib
  clear h
  generalize ClE w c = T at *
  unfold clV
  go_enter Tryz.func10, Tryz.ntmps10
  go_upto_region 1 with fail
  change Code.wp _ _ _ _ ((w.alloc (.cells (clC c (.slice a1 n1 c1) (.slice a2 n2 c2)).toArray 37)).alloc (.cells (clC ⟨0, 0, false, [], []⟩ (.slice none 0 0) (.slice none 0 0)).toArray 37))
  generalize (w.alloc (.cells (clC c (.slice a1 n1 c1) (.slice a2 n2 c2)).toArray 37)).alloc (.cells (clC ⟨0, 0, false, [], []⟩ (.slice none 0 0) (.slice none 0 0)).toArray 37) = W0 at *
  have LS := hide (show w.heap.size + 2 ≤ W0.heap.size from R0.out.lt)
  have kc3 := BlkV.cell C0.out 3
  simp [clC] at kc3
  have IC := hide (ints_any (.slice a1 n1 c1) c.l W0 IL.out (by have := NL.out; omega))
  unfold Lists at IC
  go_wp2_with fail
  refine IC.out.mono ?_
  rintro x W1 ⟨v1, rfl, o1', g1⟩
  have o1 : Own (w.heap.size + 2) W1 v1 c.l := Own.base o1' LS.out
  clear IC o1'
  obtain ⟨b1, m1, k1, rfl⟩ := shp_sl o1.shp
  have C1 := hide (C0.out.keep g1)
  have R1 := hide (R0.out.keep g1)
  have G1 := hide (grown_none G0.out g1)
  have IB1 := hide (Byts_keep IB.out g1)
  have ca := BlkV.cell C1.out 3
  have cf := BlkV.free C1.out 3
  simp [clC] at ca
  have S1 := grown_setCell W1 ⟨w.heap.size, 3, none⟩ (.slice b1 m1 k1)
  have C2 := hide (show BlkV (W1.setCell ⟨w.heap.size, 3, none⟩ (.slice b1 m1 k1)) w.heap.size 37 (clC c (.slice b1 m1 k1) (.slice a2 n2 c2)) from C1.out.set 3 _)
  have R2 := hide (R1.out.keepBut S1 (by show _ ≠ w.heap.size; omega))
  have G2 := hide (grown_own G1.out S1 (Nat.le_refl _))
  have O2 := hide (o1.keepLt S1 (by show w.heap.size < _; omega))
  have IB2 := hide (show Byts (W1.setCell ⟨w.heap.size, 3, none⟩ (.slice b1 m1 k1)) (.slice a2 n2 c2) c.b from Byts_keep IBW.out G2.out)
  have LS1 := hide (Nat.le_trans LS.out (World.grownBy.size g1))
  clear kc3 C0 R0 G0 IL IB IB1 o1 g1 S1 G1 R1
  go_upto_region 2 with fail
  clear ca cf C1
  have LS2 := hide (show w.heap.size + 2 ≤ (W1.setCell ⟨w.heap.size, 3, none⟩ (.slice b1 m1 k1)).heap.size from R2.out.lt)
  generalize W1.setCell ⟨w.heap.size, 3, none⟩ (.slice b1 m1 k1) = W2 at *
  have kc4 := BlkV.cell C2.out 4
  simp [clC] at kc4
  go_wp2_with (first | refine wpList_append_bothB rfl _ _ rfl (w.heap.size + 2) (.slice none 0 0) (.slice a2 n2 c2) [] c.b rfl rfl (OwnB_nil _ _) IB2.out SB.out (by have := NB.out; simp; omega) LS2.out ?_)
  intro v3 W3 o3 g3
  replace o3 : OwnB (w.heap.size + 2) W3 v3 c.b := o3
  replace g3 : W2.grownBy W3 none := g3
  obtain ⟨b3, m3, k3, rfl⟩ := shp_sl o3.shp
  have C3 := hide (C2.out.keep g3)
  have R3 := hide (R2.out.keep g3)
  have G3 := hide (grown_none G2.out g3)
  have O3 := hide (O2.out.keep g3)
  have ca := BlkV.cell C3.out 4
  have cf := BlkV.free C3.out 4
  simp [clC] at ca
  have S1 := grown_setCell W3 ⟨w.heap.size, 4, none⟩ (.slice b3 m3 k3)
  have C4 := hide (show BlkV (W3.setCell ⟨w.heap.size, 4, none⟩ (.slice b3 m3 k3)) w.heap.size 37 (clC c (.slice b1 m1 k1) (.slice b3 m3 k3)) from C3.out.set 4 _)
  have R4 := hide (R3.out.keepBut S1 (by show _ ≠ w.heap.size; omega))
  have G4 := hide (grown_own G3.out S1 (Nat.le_refl _))
  have O4 := hide (O3.out.keepLt S1 (by show w.heap.size < _; omega))
  have P4 := hide (o3.keepLt S1 (by show w.heap.size < _; omega))
  clear kc4 C2 R2 G2 O2 IB2 o3 g3 S1 G3 R3 O3
  go_upto_region 3 with fail
  clear ca cf C3
  generalize W3.setCell ⟨w.heap.size, 4, none⟩ (.slice b3 m3 k3) = W4 at *
  have P := clP (c' := c) (vs' := .slice b1 m1 k1) (vb' := .slice b3 m3 k3) R4.out
  have hlv := loadC P.1
  have FF := hide (FN.out _ _ _ _ _ _ _ ((O4.out.keepLt P.2 (by omega)).base (by omega)) ((P4.out.keepLt P.2 (by omega)).base (by omega)) (grown_own G4.out P.2 (by omega)))
  have O1 := hide (clC_one c b1 m1 k1 b3 m3 k3)
  clear P FN G4 O4 P4
  go_wp2_with (first | refine wpList_load_v rfl 37 _ rfl w.heap.size 0 5 rfl 37 (clC c (.slice b1 m1 k1) (.slice b3 m3 k3)) C4.out _ Tryz.underlying37 rfl size5c (by simp [clC]) _ rfl ?_ | refine wpList_store_v rfl 37 _ _ rfl (w.heap.size + 1) 0 37 (clC ⟨0, 0, false, [], []⟩ (.slice none 0 0) (.slice none 0 0)) (clC c (.slice b1 m1 k1) (.slice b3 m3 k3)) rfl rfl R4.out (by simp [clC]) size5c O1.out ?_)
  refine bodyPost_ret (v := .agg (clC c (.slice b1 m1 k1) (.slice b3 m3 k3)).toArray) ?_ rfl FF.out
  simp [results, Tryz.results10, asAddr, Act.put, hlv]
end Go.Proofs.YtdejpongekicdaaGreatDoor

/- OpensC -/
namespace Go.Proofs.YtdejpongekicdaaGreatDoor
set_option maxRecDepth 100000
open Go.ChangeShapes Go.WideShapes Go.ChangeAt Go.RowKit Go.Deep
set_option linter.unusedVariables false
set_option linter.unusedSimpArgs false
theorem wei_of {H : Type} {ts : List TypeId} {ds : List (DataW H)} {j : Nat} {t : TypeId} {d : DataW H} (hsz : (DataW.weightsEach Tryz.prog ts ds).all (· ≤ reachBytes) = true) (ht : ts[j]? = some t) (hd : ds[j]? = some d) : ∀ n ∈ d.weights Tryz.prog t, n ≤ reachBytes := fun n hn => by
  have := List.all_eq_true.1 hsz n (DataW.weights_mem_each ht hd n hn)
  simpa using this
theorem list_of_trod {H : Type} {enc : TypeId × Value → H} {W : World} {fuel : Nat} {v : Value} {x : DataW H × List MemPlace} (hf : DataW.trod enc Tryz.prog W 0 (fun _ => true) true fuel 26 [v] = some x) (hw : ∀ n ∈ x.1.weights Tryz.prog 26, n ≤ reachBytes) :
    ∃ l : List Int, Ints W v l ∧ l.length * 8 ≤ 140737488351232 ∧ In64 l ∧ Shp v l := by
  rcases open_ints Tryz.underlying26 Tryz.underlying3 o_cellsInt hf with ⟨hcs, hx⟩ | ⟨a, len, cap, zs, hcs, _, hl, hm, hz, hx, hcell, hwz⟩
  · simp at hcs
    subst hcs
    exact ⟨[], ⟨none, 0, rfl, Nat.le_refl _, fun h => by simp at h⟩, by simp, fun i => by simp [nth], .inl rfl⟩
  · simp at hcs
    subst hcs
    subst hx
    simp at hz
    have hs := hw ((lits .i64 (zs.take len) : List (DataW H)).length * 8 + (lits .i64 (zs.drop len) : List (DataW H)).length * 8) (by simp [DataW.weights, Tryz.underlying26, o_bytesInt, Nat.add_mul])
    simp only [lits, List.length_map, List.length_take, List.length_drop, reachBytes] at hs
    have e : (zs.take len).length = len := by simp; omega
    refine ⟨zs.take len, ⟨some a, cap, by rw [e], by rw [e]; exact hl, fun _ => ⟨a, rfl, fun i hi => ?_⟩⟩, by rw [e]; omega, fun i => ?_, .inr ⟨a, cap, by rw [e]⟩⟩
    · rw [e] at hi
      rw [hcell i (by omega)]
      simp [nth, List.getD, List.getElem?_take, hi]
    · by_cases hi : i < (zs.take len).length
      · have hw := hwz ((zs.take len)[i]) (List.mem_of_mem_take (List.getElem_mem hi))
        have := bounds_i64 hw
        rw [show nth (zs.take len) i = (zs.take len)[i] by unfold nth; rw [List.getD, List.getElem?_eq_getElem hi]; rfl]
        exact this
      · rw [getD_out _ i (by omega)]; omega
theorem byts_of_trod {H : Type} {enc : TypeId × Value → H} {W : World} {fuel : Nat} {v : Value} {x : DataW H × List MemPlace} (hf : DataW.trod enc Tryz.prog W 0 (fun _ => true) true fuel 32 [v] = some x) (hw : ∀ n ∈ x.1.weights Tryz.prog 32, n ≤ reachBytes) :
    ∃ l : List Int, Byts W v l ∧ l.length ≤ 140737488351232 ∧ byB l ∧ Shp v l := by
  rcases open_ints Tryz.underlying32 Tryz.underlying5 o_cellsByt hf with ⟨hcs, hx⟩ | ⟨a, len, cap, zs, hcs, _, hl, hm, hz, hx, hcell, hwz⟩
  · simp at hcs
    subst hcs
    exact ⟨[], ⟨none, 0, rfl, Nat.le_refl _, fun h => by simp at h⟩, by simp, fun i => by simp [nth], .inl rfl⟩
  · simp at hcs
    subst hcs
    subst hx
    simp at hz
    have hs := hw ((lits .u8 (zs.take len) : List (DataW H)).length * 1 + (lits .u8 (zs.drop len) : List (DataW H)).length * 1) (by simp [DataW.weights, Tryz.underlying32, o_bytesByt, Nat.add_mul])
    simp only [lits, List.length_map, List.length_take, List.length_drop, reachBytes] at hs
    have e : (zs.take len).length = len := by simp; omega
    refine ⟨zs.take len, ⟨some a, cap, by rw [e], by rw [e]; exact hl, fun _ => ⟨a, rfl, fun i hi => ?_⟩⟩, by rw [e]; omega, fun i => ?_, .inr ⟨a, cap, by rw [e]⟩⟩
    · rw [e] at hi
      rw [hcell i (by omega)]
      simp [nth, List.getD, List.getElem?_take, hi]
    · by_cases hi : i < (zs.take len).length
      · have hw := hwz ((zs.take len)[i]) (List.mem_of_mem_take (List.getElem_mem hi))
        have := byt_wf hw
        rw [show nth (zs.take len) i = (zs.take len)[i] by unfold nth; rw [List.getD, List.getElem?_eq_getElem hi]; rfl]
        exact this
      · rw [getD_out _ i (by omega)]; omega
theorem clF : ∃ f0 f1 f2 f3 f4 : Field, Tryz.prog.underlying 37 = some (.struct #[f0, f1, f2, f3, f4]) ∧ (f0.type = 3 ∧ f0.offset = 0) ∧ (f1.type = 3 ∧ f1.offset = 1) ∧ (f2.type = 4 ∧ f2.offset = 2) ∧ (f3.type = 26 ∧ f3.offset = 3) ∧ (f4.type = 32 ∧ f4.offset = 4) :=
  ⟨_, _, _, _, _, Tryz.underlying37, ⟨rfl, rfl⟩, ⟨rfl, rfl⟩, ⟨rfl, rfl⟩, ⟨rfl, rfl⟩, ⟨rfl, rfl⟩⟩
theorem cl_cells : Tryz.prog.cellsOf 37 = 5 := by kernel_rfl
theorem c_cellsBool : Tryz.prog.cellsOf 4 = 1 := by kernel_rfl
theorem c_cellsList : Tryz.prog.cellsOf 26 = 1 := by kernel_rfl
theorem c_cellsBytes : Tryz.prog.cellsOf 32 = 1 := by kernel_rfl
structure ClV where
  c : Cl
  a1 : Option Addr
  n1 : Nat
  c1 : Nat
  a2 : Option Addr
  n2 : Nat
  c2 : Nat
def ClV.ok (W : World) (z : ClV) : Prop := ClOk W z.c (.slice z.a1 z.n1 z.c1) (.slice z.a2 z.n2 z.c2)
def ClV.cs (z : ClV) : List Value := clC z.c (.slice z.a1 z.n1 z.c1) (.slice z.a2 z.n2 z.c2)
theorem cl_of_trod {H : Type} {enc : TypeId × Value → H} {W : World} {fuel : Nat} {cs : List Value} {x : DataW H × List MemPlace} (hl : cs.length = 5) (hf : DataW.trod enc Tryz.prog W 0 (fun _ => true) true fuel 37 cs = some x) (hw : ∀ n ∈ x.1.weights Tryz.prog 37, n ≤ reachBytes) :
    ∃ z : ClV, cs = z.cs ∧ z.ok W := by
  obtain ⟨f0, f1, f2, f3, f4, hu, ⟨t0, p0⟩, ⟨t1, p1⟩, ⟨t2, p2⟩, ⟨t3, p3⟩, ⟨t4, p4⟩⟩ := clF
  obtain ⟨xs, n, _, hx, _, hxs, hfd⟩ := DataW.trod_struct hu hf
  subst hx
  match cs, hl with
  | [v0, v1, v2, v3, v4], _ =>
    have hxl : xs.length = 5 := by simpa using hxs
    have g0 := hfd 0 f0 rfl
    have g1 := hfd 1 f1 rfl
    have g2 := hfd 2 f2 rfl
    have g3 := hfd 3 f3 rfl
    have g4 := hfd 4 f4 rfl
    rw [t0, p0, o_cellsInt, List.getElem?_eq_getElem (by omega)] at g0
    rw [t1, p1, o_cellsInt, List.getElem?_eq_getElem (by omega)] at g1
    rw [t2, p2, c_cellsBool, List.getElem?_eq_getElem (by omega)] at g2
    rw [t3, p3, c_cellsList, List.getElem?_eq_getElem (by omega)] at g3
    rw [t4, p4, c_cellsBytes, List.getElem?_eq_getElem (by omega)] at g4
    have hwe : ∀ (j : Nat) (t : TypeId) (y : DataW H × List MemPlace), ([f0.type, f1.type, f2.type, f3.type, f4.type] : List TypeId)[j]? = some t → xs[j]? = some y → ∀ m ∈ y.1.weights Tryz.prog t, m ≤ reachBytes := fun j t y ht hy m hm => by
      refine hw m ?_
      simp only [DataW.weights, hu]
      exact DataW.weights_mem_each (j := j) (t := t) (d := y.1) (by simpa using ht) (by rw [List.getElem?_map, hy]; rfl) m hm
    have w3 := hwe 3 26 _ (by rw [← t3]; rfl) (List.getElem?_eq_getElem (by omega))
    have w4 := hwe 4 32 _ (by rw [← t4]; rfl) (List.getElem?_eq_getElem (by omega))
    obtain ⟨l, hI, hIl, hI64, hIs⟩ := list_of_trod (v := v3) g3 w3
    obtain ⟨b, hB, hBl, hBy, hBs⟩ := byts_of_trod (v := v4) g4 w4
    obtain ⟨r, hr, _⟩ := DataW.trod_bool Tryz.underlying4 g2
    obtain ⟨z0, h0, _, q0⟩ := DataW.trod_int Tryz.underlying3 g0
    obtain ⟨z1, h1, _, q1⟩ := DataW.trod_int Tryz.underlying3 g1
    simp at hr h0 h1
    subst hr h0 h1
    obtain ⟨a1, n1, c1, rfl⟩ := shp_sl hIs
    obtain ⟨a2, n2, c2, rfl⟩ := shp_sl hBs
    exact ⟨⟨⟨z0, z1, r, l, b⟩, a1, n1, c1, a2, n2, c2⟩, rfl, ⟨bounds_i64 q0, bounds_i64 q1, hI, hIs, hI64, hIl, hB, hBs, hBy, hBl⟩⟩
theorem open_call {H : Type} {enc : TypeId × Value → H} {W : World} {base : Nat} {v : Value} {d : DataW H} {p : List MemPlace} {ts : List TypeId} {ds : List (DataW H)} {j : Nat}
    (hv : Value.okWide Tryz.prog W .any base 37 v) (h : DataW.Trod enc Tryz.prog W 0 (fun _ => true) true 37 v d p) (hsz : (DataW.weightsEach Tryz.prog ts ds).all (· ≤ reachBytes) = true) (ht : ts[j]? = some 37) (hd : ds[j]? = some d) : ∃ z : ClV, v = .agg z.cs.toArray ∧ z.ok W := by
  obtain ⟨cs, rfl, hs, _⟩ : ∃ cs, v = .agg cs ∧ cs.size = Tryz.prog.cellsOf 37 ∧ Row.okWide Tryz.prog W .any base 37 cs := by
    unfold Value.okWide at hv
    simpa [Tryz.underlying37] using hv
  obtain ⟨fuel, hf⟩ := h
  obtain ⟨z, e, k⟩ := cl_of_trod (by rw [cl_cells] at hs; simpa [Value.cells] using hs) hf (wei_of hsz ht hd)
  refine ⟨z, ?_, k⟩
  rw [← e]
  simp [Value.cells]
end Go.Proofs.YtdejpongekicdaaGreatDoor

/- LDkN -/
namespace Go.Proofs.YtdejpongekicdaaGreatDoor
open Go.RowKit
set_option linter.unusedVariables false
set_option linter.unusedSimpArgs false
set_option maxHeartbeats 4000000
set_option maxRecDepth 100000 in
theorem law_deskNil (w : World) (z : ClV) (hok : z.ok w) : Calls Tryz.prog 4 #[.agg z.cs.toArray] w fun e w' => e = .returned (.bool true) ∧ Below w.heap.size w w' := by
  obtain ⟨c, a1, n1, c1, a2, n2, c2⟩ := z
  have hok : ClOk w c (.slice a1 n1 c1) (.slice a2 n2 c2) := hok
  have F := hide (show ∀ w', w.grownBy w' none → (fun (e : Ending) (w' : World) => e = .returned (.bool true) ∧ Below w.heap.size w w') (.returned (.bool true)) w' from fun w' q => ⟨rfl, below_of_grown q⟩)
  obtain ⟨T, hT'⟩ : ∃ T : Ending → World → Prop, (fun (e : Ending) (w' : World) => e = .returned (.bool true) ∧ Below w.heap.size w w') = T := ⟨_, rfl⟩
  rw [hT'] at F ⊢
  clear hT'
  have hz := zAns
  have C0 := hide (BlkV.new w 37 (clC c (.slice a1 n1 c1) (.slice a2 n2 c2)))
  have G0 := hide (grown_alloc w (.cells (clC c (.slice a1 n1 c1) (.slice a2 n2 c2)).toArray 37) none)
  have CA := hide (call_voxsatlaw c a1 n1 c1 a2 n2 c2 _ (clOk_keep hok G0.out))
  have MN := hide dkMany_nil
  unfold ClE at CA
  clear hok
  change Calls Tryz.prog 4 #[.agg (clC c (.slice a1 n1 c1) (.slice a2 n2 c2)).toArray] w T
  go_enter Tryz.func4, Tryz.ntmps4
  go_upto_region 2 with fail
  generalize w.alloc (.cells (clC c (.slice a1 n1 c1) (.slice a2 n2 c2)).toArray 37) = W0 at *
  go_wp2_with (first | refine wpList_load_v rfl 37 _ rfl w.heap.size 0 5 rfl 37 (clC c (.slice a1 n1 c1) (.slice a2 n2 c2)) C0.out _ Tryz.underlying37 rfl size5c (by simp [clC]) _ rfl ?_)
  refine CA.out.mono ?_
  rintro x W1 ⟨b1, m1, k1, b2, m2, k2, rfl, ok1, _, _, g1⟩
  have G1 := hide (grown_none G0.out g1)
  have C1 := hide (C0.out.keep g1)
  have DN := hide (dkDo_nil c b1 m1 k1 b2 m2 k2 W1)
  clear CA ok1 g1 C0 G0
  unfold clV at DN ⊢
  go_wp2_with fail
  refine DN.out.mono ?_
  rintro x W2 ⟨rfl, g2⟩
  have G2 := hide (grown_none (grown_none G1.out g2) (grown_alloc W2 (.cells (ansC 6 c.v (.slice none 0 0) (.slice none 0 0)).toArray 34) none))
  have kc1 := BlkV.cell (C1.out.keep g2) 1
  simp [clC] at kc1
  have lt : w.heap.size < W2.heap.size := (C1.out.keep g2).lt
  have FF := hide (F.out _ G2.out)
  clear DN G1 C1 g2 F G2
  unfold ansC at hz FF
  unfold ansV
  go_wp2_with fail
  refine (MN.out _).mono ?_
  rintro x W3 ⟨rfl, rfl⟩
  go_wp2_with fail
  exact FF.out
theorem crd_deskNil (W : World) (t0 : TabA W 5 gro 15) (t1 : TabA W 3 widq 8) (t2 : TabA W 2 gains 8) (z : ClV) (h : z.ok W) : Calls Tryz.prog 4 #[.agg z.cs.toArray] W fun e w' => e = .returned (.bool true) ∧ Below W.heap.size W w' := law_deskNil W z h
end Go.Proofs.YtdejpongekicdaaGreatDoor
