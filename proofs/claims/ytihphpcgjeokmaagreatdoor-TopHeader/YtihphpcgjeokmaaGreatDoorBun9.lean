/- Texts put together: OpensT, TopS, LCodE, TopEnd, TopEw, TopE, LTpE, TopSil, TopG, LTpG. -/
import Derived.Test.YtihphpcgjeokmaaGreatDoorBun5
import Derived.Test.YtihphpcgjeokmaaGreatDoorBun8
import Derived.Deep.Slices
import Derived.Deep.CutRange
import Derived.Test.YtihphpcgjeokmaaGreatDoorBun7
import Derived.Test.YtihphpcgjeokmaaGreatDoorBun1
import Derived.Test.YtihphpcgjeokmaaGreatDoorBun2
import Derived.BigQuiet
import Derived.Deep.QuietTactic
/- OpensT -/
namespace Go.Proofs.YtihphpcgjeokmaaGreatDoor
set_option maxRecDepth 100000
open Go.ChangeShapes Go.WideShapes Go.ChangeAt Go.RowKit Go.Deep
set_option linter.unusedVariables false
set_option linter.unusedSimpArgs false
structure TkOk (W : World) (b o : Nat) (t : Tk) : Prop where
  c0 : W.cell? ⟨b, o, none⟩ = some t.v
  c1 : W.cell? ⟨b, o + 1, none⟩ = some (.bool t.r)
  c2 : W.cell? ⟨b, o + 2, none⟩ = some (.int .i64 t.f)
  c3 : W.cell? ⟨b, o + 3, none⟩ = some (.int .i64 t.a)
  c4 : W.cell? ⟨b, o + 4, none⟩ = some (.int .i64 t.m)
  li : Ints W t.v t.l
  len : t.l.length ≤ 9223372036854775807
  bf : -9223372036854775808 ≤ t.f ∧ t.f ≤ 9223372036854775807
  ba : -9223372036854775808 ≤ t.a ∧ t.a ≤ 9223372036854775807
  bm : -9223372036854775808 ≤ t.m ∧ t.m ≤ 9223372036854775807
def Talks (W : World) (v : Value) (n : Nat) (L : Nat → Tk) : Prop := ∃ ad c, v = .slice ad n c ∧ n ≤ c ∧ c ≤ 9223372036854775807 ∧ (0 < n → ∃ b o, ad = some ⟨b, o, none⟩ ∧ ∀ i, i < n → TkOk W b (o + i * 5) (L i))
theorem tkF : ∃ f0 f1 f2 f3 f4 : Field, Tryz.prog.underlying 38 = some (.struct #[f0, f1, f2, f3, f4]) ∧ (f0.type = 36 ∧ f0.offset = 0) ∧ (f1.type = 4 ∧ f1.offset = 1) ∧ (f2.type = 3 ∧ f2.offset = 2) ∧ (f3.type = 3 ∧ f3.offset = 3) ∧ (f4.type = 3 ∧ f4.offset = 4) :=
  ⟨_, _, _, _, _, Tryz.underlying38, ⟨rfl, rfl⟩, ⟨rfl, rfl⟩, ⟨rfl, rfl⟩, ⟨rfl, rfl⟩, ⟨rfl, rfl⟩⟩
theorem tk_cells : Tryz.prog.cellsOf 38 = 5 := by kernel_rfl
theorem o_cellsBool : Tryz.prog.cellsOf 4 = 1 := by kernel_rfl
theorem o_cellsList : Tryz.prog.cellsOf 36 = 1 := by kernel_rfl
theorem ints_of_trod {H : Type} {enc : TypeId × Value → H} {W : World} {fuel : Nat} {v : Value} {x : DataW H × List MemPlace} (hf : DataW.trod enc Tryz.prog W 0 (fun _ => true) true fuel 36 [v] = some x) :
    ∃ l : List Int, Ints W v l ∧ l.length ≤ 9223372036854775807 := by
  rcases open_ints Tryz.underlying36 Tryz.underlying3 o_cellsInt hf with ⟨hcs, hx⟩ | ⟨a, len, cap, zs, hcs, _, hl, hm, hz, hx, hcell, hwz⟩
  · simp at hcs
    subst hcs
    exact ⟨[], ⟨none, 0, rfl, Nat.le_refl _, fun h => by simp at h⟩, by simp⟩
  · simp at hcs
    subst hcs
    simp at hz
    unfold maxLen at hm
    have e : (zs.take len).length = len := by simp; omega
    refine ⟨zs.take len, ⟨some a, cap, by rw [e], by rw [e]; exact hl, fun _ => ⟨a, rfl, fun i hi => ?_⟩⟩, by rw [e]; omega⟩
    rw [e] at hi
    rw [hcell i (by omega)]
    simp [nth, List.getD, List.getElem?_take, hi]
theorem tk_of_trod {H : Type} {enc : TypeId × Value → H} {W : World} {fuel : Nat} {b o : Nat} {cs : List Value} {x : DataW H × List MemPlace} (hc : W.cells? 0 ⟨b, o, none⟩ 5 = some cs) (hf : DataW.trod enc Tryz.prog W 0 (fun _ => true) true fuel 38 cs = some x) :
    ∃ t : Tk, TkOk W b o t := by
  obtain ⟨_, hl, hat⟩ := World.cells?_some hc
  obtain ⟨f0, f1, f2, f3, f4, hu, ⟨t0, p0⟩, ⟨t1, p1⟩, ⟨t2, p2⟩, ⟨t3, p3⟩, ⟨t4, p4⟩⟩ := tkF
  obtain ⟨xs, n, _, _, _, hxs, hfd⟩ := DataW.trod_struct hu hf
  match cs, hl with
  | [v0, v1, v2, v3, v4], _ =>
    have hxl : xs.length = 5 := by simpa using hxs
    have g0 := hfd 0 f0 rfl
    have g1 := hfd 1 f1 rfl
    have g2 := hfd 2 f2 rfl
    have g3 := hfd 3 f3 rfl
    have g4 := hfd 4 f4 rfl
    rw [t0, p0, o_cellsList, List.getElem?_eq_getElem (by omega)] at g0
    rw [t1, p1, o_cellsBool, List.getElem?_eq_getElem (by omega)] at g1
    rw [t2, p2, o_cellsInt, List.getElem?_eq_getElem (by omega)] at g2
    rw [t3, p3, o_cellsInt, List.getElem?_eq_getElem (by omega)] at g3
    rw [t4, p4, o_cellsInt, List.getElem?_eq_getElem (by omega)] at g4
    obtain ⟨l, hI, hlen⟩ := ints_of_trod (v := v0) g0
    obtain ⟨r, hr, _⟩ := DataW.trod_bool Tryz.underlying4 g1
    obtain ⟨z2, h2, _, w2⟩ := DataW.trod_int Tryz.underlying3 g2
    obtain ⟨z3, h3, _, w3⟩ := DataW.trod_int Tryz.underlying3 g3
    obtain ⟨z4, h4, _, w4⟩ := DataW.trod_int Tryz.underlying3 g4
    simp at hr h2 h3 h4
    subst hr h2 h3 h4
    have a0 := hat 0 (by omega)
    have a1 := hat 1 (by omega)
    have a2 := hat 2 (by omega)
    have a3 := hat 3 (by omega)
    have a4 := hat 4 (by omega)
    rw [Addr.add_mid] at a0 a1 a2 a3 a4
    exact ⟨⟨v0, l, r, z2, z3, z4⟩, ⟨a0, a1, a2, a3, a4, hI, hlen, bounds_i64 w2, bounds_i64 w3, bounds_i64 w4⟩⟩
theorem open_talks {H : Type} {enc : TypeId × Value → H} {W : World} {base : Nat} {v : Value} {d : DataW H} {p : List MemPlace}
    (hv : Value.okWide Tryz.prog W .any base 22 v) (h : DataW.Trod enc Tryz.prog W 0 (fun _ => true) true 22 v d p) : ∃ (n : Nat) (L : Nat → Tk), Talks W v n L := by
  obtain ⟨a0, len, cap, rfl⟩ := okWide_slice Tryz.underlying22 hv
  obtain ⟨fuel, hf⟩ := h
  rcases open_slice Tryz.underlying22 hf with ⟨hcs, hx⟩ | ⟨a, len', cap', m, n, D, Pl, hcs, _, hl, hm, hmm, hx, hel⟩
  · simp [Value.cells] at hcs
    obtain ⟨rfl, rfl, rfl⟩ := hcs
    exact ⟨0, fun _ => ⟨.slice none 0 0, [], false, 0, 0, 0⟩, none, 0, rfl, Nat.le_refl _, by omega, fun h => by omega⟩
  · simp [Value.cells] at hcs
    obtain ⟨rfl, rfl, rfl⟩ := hcs
    simp at hmm
    subst hmm
    unfold maxLen at hm
    rw [tk_cells] at hel
    rcases Nat.eq_zero_or_pos len with h0 | h0
    · subst h0
      exact ⟨0, fun _ => ⟨.slice none 0 0, [], false, 0, 0, 0⟩, _, _, rfl, Nat.zero_le _, by omega, fun h => by omega⟩
    · obtain ⟨b, o, sp⟩ := a
      have hs : sp = none := by
        obtain ⟨cs', h1, _⟩ := hel 0 (by omega)
        obtain ⟨_, hl5, hat⟩ := World.cells?_some h1
        have := hat 0 (by omega)
        rw [List.getElem?_eq_getElem (by omega), show (0 * 5 : Nat) = 0 from rfl] at this
        simp only [Addr.add, if_pos] at this
        unfold World.cell? at this
        simp only at this
        split at this
        · cases sp with
          | none => rfl
          | some q => simp at this
        · simp at this
      subst hs
      have each : ∀ i, i < len → ∃ t : Tk, TkOk W b (o + i * 5) t := fun i hi => by
        obtain ⟨cs', h1, h2⟩ := hel i (by omega)
        rw [Addr.add_mid] at h1
        exact tk_of_trod h1 h2
      have : Inhabited Tk := ⟨⟨.slice none 0 0, [], false, 0, 0, 0⟩⟩
      obtain ⟨L, hL⟩ := choose_lt (α := Tk) (p := fun i t => TkOk W b (o + i * 5) t) each
      exact ⟨len, L, _, _, rfl, hl, by omega, fun _ => ⟨b, o, rfl, hL⟩⟩
end Go.Proofs.YtihphpcgjeokmaaGreatDoor

/- TopS -/
namespace Go.Proofs.YtihphpcgjeokmaaGreatDoor
open Go.RowKit
set_option linter.unusedVariables false
set_option linter.unusedSimpArgs false
set_option maxHeartbeats 2000000
theorem goodE_64 {e : List Int} (h : GoodE e) : In64 e := fun i => by
  by_cases a : i < 4
  · have := h.hp i a; omega
  · by_cases b : i < 124
    · have := (right_prt _ _ _).1 h.inp (i - 4) (by omega)
      rw [show 4 + (i - 4) = i by omega] at this
      omega
    · by_cases c : i < 225
      · have := good_64 (show (enMm e).length = 101 from prt_len _ _ _) h.mem (i - 124)
        unfold enMm at this
        rw [prt_nth _ _ _ _ (by omega), show 124 + (i - 124) = i by omega] at this
        exact this
      · rw [getD_out _ i (by rw [h.len]; omega)]; omega
theorem frm_64 (l : List Int) : In64 (frmL l) := fun i => by
  by_cases h : i < 80
  · have := (rightB_iff _).1 (frmL_right l) i (by rw [frmL_len]; exact h); omega
  · rw [getD_out _ i (by rw [frmL_len]; omega)]; omega
theorem bin_memN (l : List Int) (s : Bool) (hl : l.length = 101) (w : World) : Sem.run Tryz.prog (binOp .neq 30 (memV l s) (memV l s)) w = .ok (.bool false) w := by
  have h := eq_mem l s hl w
  unfold memV at h ⊢
  rw [run_neq_struct, h]
  rfl
theorem guard_memN (x y : Operand) (l m : List Int) (s t : Bool) (w : World) : Sem.run Tryz.prog (eqGuard .neq 30 x y (memV l s) (memV m t)) w = .ok () w := run_eqGuard_agg w .neq 30 x y _ _ (by kernel_rfl)
theorem wpList_neq_mem {ops : Array Oper} {rest : List Oper} {o : Oper} {a : Act} {w : World} {Q : Exit → Act → World → Prop} (hgd : Region.wanted o (yielded ops a.tmps) = true) (x y : Operand) (ho : o.op = .binOp .neq 30 x y 30)
    (l : List Int) (s : Bool) (hl : l.length = 101) (hx : a.eval x = memV l s) (hy : a.eval y = memV l s) (k : wpList Tryz.prog ops Q rest (a.put o.dst (.bool false)) w) : wpList Tryz.prog ops Q (o :: rest) a w := by
  refine wpList_step fun K hK => ?_
  rw [if_pos hgd]
  have h1 := guard_memN x y l l s s w
  have h2 := bin_memN l s hl w
  unfold Oper.wp
  simp only [execOp, ho, hx, hy, Sem.run_bind, h1, Result.andThen_ok, h2]
  exact hK _ _ k
structure TwE (w : World) (bs bm : Nat) (e m : List Int) (s t : Bool) (wr : World) : Prop where
  es : BlkE wr bs e s
  ms : BlkM wr bm m t
  gr : w.grownBy wr none
structure TkR (e l : List Int) (r : Bool) (s1 : Bool) (X B H : List Int) : Prop where
  er : encE e l = 0
  x : encM e l r = X
  t : encT e l r = s1
  b : encB e l r = B
  h : encL e l r = H
  dm : decM (enMm e) B = enMm X
  ds : decS (enMm e) B = s1
  dl : decL (enMm e) B = H
  de : decE (enMm e) B = 0
  bl : B.length = 15
  hl : H.length = 80
  by' : byB B
theorem tkR_of {e : List Int} (g : GoodE e) (l : List Int) (hl : l.length = 80) (hr : rightB l = true) (r : Bool) : TkR e l r (encT e l r) (encM e l r) (encB e l r) (encL e l r) := by
  have k := goodE_ok g hl hr
  have y := enc_yes r k
  obtain ⟨a, b, c, d⟩ := dec_enc (l := l) g r g.mem
  refine ⟨y.2.2.2.2, rfl, rfl, rfl, rfl, ?_, ?_, ?_, ?_, ?_, ?_, ?_⟩
  · rw [y.2.2.1, a]; exact (encM_mm _ k).symm
  · rw [y.2.2.1, b]; exact y.2.1.symm
  · rw [y.2.2.1, c]; exact y.2.2.2.1.symm
  · rw [y.2.2.1, d]
  · rw [y.2.2.1]; exact pkA_len _
  · rw [y.2.2.2.1]; exact (plyL_right (show (enMm e).length = 101 from prt_len _ _ _) g.mem (enP_good r g.mem)).1
  · rw [y.2.2.1]; exact pkA_by _
theorem talks_keep {w w' : World} {b o : Nat} {t : Tk} (h : TkOk w b o t) (g : w.grownBy w' none) : TkOk w' b o t :=
  ⟨grown_keep g h.c0, grown_keep g h.c1, grown_keep g h.c2, grown_keep g h.c3, grown_keep g h.c4, Ints_keep h.li g, h.len, h.bf, h.ba, h.bm⟩
end Go.Proofs.YtihphpcgjeokmaaGreatDoor

/- LCodE -/
namespace Go.Proofs.YtihphpcgjeokmaaGreatDoor
open Go.RowKit
set_option linter.unusedVariables false
set_option linter.unusedSimpArgs false
set_option maxHeartbeats 2000000
def CErs (f : Nat) (w : World) : Prop := ∀ (l : List Int) (s : Bool), l.length = 101 → In64 l → ∀ wr, w.grownBy wr none → Calls Tryz.prog f #[memV l s] wr (MemE wr (ersM l) (ersS l s) (ersL l) (ersE l))
theorem ersM_len (l : List Int) (hl : l.length = 101) : (ersM l).length = 101 := by
  unfold ersM
  split
  · exact eaM_len _ _ hl 2
  · exact zeros_len _
end Go.Proofs.YtihphpcgjeokmaaGreatDoor

/- TopEnd -/
namespace Go.Proofs.YtihphpcgjeokmaaGreatDoor
open Go.RowKit
set_option linter.unusedVariables false
set_option linter.unusedSimpArgs false
def feB (L : Nat → Tk) (k : Nat) : List Int := encB (syE L k) (frmL (L k).l) (L k).r
def feM (L : Nat → Tk) : Nat → List Int
  | 0 => freL
  | k + 1 => if spotN (L k).f 3 = 0 then decM (feM L k) (feB L k) else ersM (feM L k)
def feT (L : Nat → Tk) : Nat → Bool
  | 0 => false
  | k + 1 => if spotN (L k).f 3 = 0 then decS (feM L k) (feB L k) else ersS (feM L k) (feT L k)
theorem feB_eq (L : Nat → Tk) (k : Nat) : feB L k = pkA (enP (syE L k) (frmL (L k).l) (L k).r) :=
  (enc_yes _ (goodE_ok (syE_good L k) (frmL_len _) (frmL_right _))).2.2.1
theorem fe_dec (L : Nat → Tk) (k : Nat) {m : List Int} (hg : goodM m = true) : decM m (feB L k) = plyM m (enP (syE L k) (frmL (L k).l) (L k).r) ∧ decL m (feB L k) = plyL m (enP (syE L k) (frmL (L k).l) (L k).r) ∧ decE m (feB L k) = 0 := by
  obtain ⟨a, b, c, d⟩ := dec_enc (l := frmL (L k).l) (syE_good L k) (L k).r hg
  rw [feB_eq]
  exact ⟨a, c, d⟩
theorem feM_good (L : Nat → Tk) : ∀ k, (feM L k).length = 101 ∧ goodM (feM L k) = true
  | 0 => ⟨freL_len, freL_good⟩
  | k + 1 => by
    obtain ⟨hl, hg⟩ := feM_good L k
    show (if spotN (L k).f 3 = 0 then decM (feM L k) (feB L k) else ersM (feM L k)).length = 101 ∧ goodM (if spotN (L k).f 3 = 0 then decM (feM L k) (feB L k) else ersM (feM L k)) = true
    split
    · rw [(fe_dec L k hg).1]
      exact ⟨plyM_len _ hl, plyM_good hl hg (enP_good _ (syE_good L k).mem)⟩
    · exact ⟨ersM_len _ hl, ersM_good hl hg⟩
theorem fe_turned (L : Nat → Tk) (k : Nat) {m : List Int} (hg : goodM m = true) (i : Nat) (hi : i < 15) (z : Int) (z0 : 0 ≤ z) (z1 : z < 256) (hz : z ≠ nth (feB L k) i) : decM m ((feB L k).set i z) = zeros 101 ∧ decS m ((feB L k).set i z) = false ∧ decL m ((feB L k).set i z) = [] ∧ decE m ((feB L k).set i z) = 5 := by
  rw [feB_eq] at hz ⊢
  have u := un_turned _ i hi z z0 z1 hz
  have d := dec_no hg (show unE _ ≠ 0 by rw [u]; decide)
  rw [u] at d
  exact d
theorem fe_refresh {e : List Int} (g : GoodE e) (l : List Int) (hl : l.length = 80) (hr : rightB l = true) {m : List Int} (hg : goodM m = true) : decM m (encB e l true) = enMm (encM e l true) ∧ decS m (encB e l true) = encT e l true ∧ decL m (encB e l true) = encL e l true ∧ decE m (encB e l true) = 0 := by
  have k := goodE_ok g hl hr
  have y := enc_yes true k
  obtain ⟨a, b, c, d⟩ := dec_enc (l := l) g true hg
  have r := ply_refresh m (enMm e) (enP e l true) (enP_refresh e l)
  rw [y.2.2.1]
  refine ⟨?_, ?_, ?_, d⟩
  · rw [a, r.1]; exact (encM_mm true k).symm
  · rw [b]; exact y.2.1.symm
  · rw [c, r.2]; exact y.2.2.2.1.symm
end Go.Proofs.YtihphpcgjeokmaaGreatDoor

/- TopEw -/
namespace Go.Proofs.YtihphpcgjeokmaaGreatDoor
open Go.RowKit
set_option linter.unusedVariables false
def EndE (w : World) (E : List Int) (t : Bool) (M : List Int) (u : Bool) (x : Ending) (w' : World) : Prop := x = .returned (.tuple #[encV E t, memV M u, .bool true]) ∧ w.grownBy w' none
def CEnd (f : Nat) (w : World) : Prop := ∀ (v : Value) (n : Nat) (L : Nat → Tk), Talks w v n L → ∀ wr, w.grownBy wr none → Calls Tryz.prog f #[v] wr (EndE wr (syE L (min n 12)) (syS L (min n 12)) (feM L (min n 12)) (feT L (min n 12)))
end Go.Proofs.YtihphpcgjeokmaaGreatDoor

/- TopE -/
namespace Go.Proofs.YtihphpcgjeokmaaGreatDoor
open Go.RowKit
set_option linter.unusedVariables false
set_option linter.unusedSimpArgs false
set_option maxHeartbeats 16000000
structure EnR (w : World) (wr : World) : Prop where
  re : BlkE wr w.heap.size (zeros 225) false
  rm : BlkM wr (w.heap.size + 1) (zeros 101) false
theorem EnR.keep {w wr wr' : World} (h : EnR w wr) (g : wr.grownBy wr' none) : EnR w wr' := ⟨h.re.keep g, h.rm.keep g⟩
theorem EnR.but {w wr wr' : World} {r : Nat} (h : EnR w wr) (g : wr.grownBy wr' (some r)) (hr : w.heap.size + 1 < r) : EnR w wr' := ⟨h.re.keepBut g (by omega), h.rm.keepBut g (by omega)⟩
theorem feT_len (L : Nat → Tk) (k : Nat) : (feB L k).length = 15 := by rw [feB_eq]; exact pkA_len _
theorem xor_u8T (x m : Int) (x0 : 0 ≤ x) (x1 : x < 256) (m1 : 1 ≤ m) (m2 : m ≤ 255) : 0 ≤ bits .xor .u8 x m ∧ bits .xor .u8 x m < 256 ∧ bits .xor .u8 x m ≠ x := by
  have e : bits .xor .u8 x m = ((BitVec.ofInt 8 x ^^^ BitVec.ofInt 8 m).toNat : Int) := by
    show IntKind.u8.wrap ((BitVec.ofInt 8 x ^^^ BitVec.ofInt 8 m).toNat : Int) = _
    have h := (BitVec.ofInt 8 x ^^^ BitVec.ofInt 8 m).isLt
    rw [IntKind.wrap_u8]
    exact Int.emod_eq_of_lt (by omega) (by omega)
  rw [e]
  have h := (BitVec.ofInt 8 x ^^^ BitVec.ofInt 8 m).isLt
  refine ⟨by omega, by omega, fun q => ?_⟩
  have hx : (BitVec.ofInt 8 x).toNat = x.toNat := by rw [BitVec.toNat_ofInt]; omega
  have hm : (BitVec.ofInt 8 m).toNat = m.toNat := by rw [BitVec.toNat_ofInt]; omega
  have e1 : BitVec.ofInt 8 x ^^^ BitVec.ofInt 8 m = BitVec.ofInt 8 x := BitVec.eq_of_toNat_eq (by rw [hx]; omega)
  have e2 : BitVec.ofInt 8 m = 0#8 := by
    have := congrArg (fun z => BitVec.ofInt 8 x ^^^ z) e1
    simpa [← BitVec.xor_assoc] using this
  rw [e2] at hm
  simp at hm
  omega
theorem spot3 (f : Int) : spotN f 3 = 0 ∨ spotN f 3 = 1 ∨ spotN f 3 = 2 := by unfold spotN; omega
set_option maxRecDepth 100000 in
theorem topEnds_any (w : World) (pc : CEn 12 w) (pd : CDe 14 w) (pe : CErs 18 w) (pb : CBg 9 w) (pf : CFr 10 w) (v : Value) (n : Nat) (L : Nat → Tk) (h : Talks w v n L) (wr0 : World) (gw : w.grownBy wr0 none) :
    Calls Tryz.prog 17 #[v] wr0 (EndE wr0 (syE L (min n 12)) (syS L (min n 12)) (feM L (min n 12)) (feT L (min n 12))) := by
  obtain ⟨ad, c, rfl, hc, hc63, hT⟩ := h
  have TA := hide (talks_any ad n c hc hc63 (fun h0 => by obtain ⟨b, o, rfl, _⟩ := hT h0; simp))
  have HT := hide hT
  have PC := hide pc
  have PD := hide pd
  have PE := hide pe
  have PB := hide pb
  have PF := hide pf
  have SH80 := hide (fun b l (hl : l.length = 80) => show Shp (.slice (some ⟨b, 0, none⟩) 80 80) l from .inr ⟨_, _, by rw [hl]⟩)
  have ZL := hide (encC_len (zeros_len 225) false)
  have ZM := hide (memC_len (zeros_len 101) false)
  have hz := zero_enc
  have hy := zero_mem
  obtain ⟨N, hN, hN2⟩ : ∃ N : Nat, min n 12 = N ∧ N ≤ n := ⟨_, rfl, by omega⟩
  have hN12 : N ≤ 12 := by omega
  rw [hN] at TA ⊢
  clear hN
  have F := hide (show ∀ w', wr0.grownBy w' none → EndE wr0 (syE L N) (syS L N) (feM L N) (feT L N) (.returned (.tuple #[encV (syE L N) (syS L N), memV (feM L N) (feT L N), .bool true])) w' from fun w' q => ⟨rfl, q⟩)
  have LEN := hide (show (syE L N).length = 225 ∧ (feM L N).length = 101 from ⟨(syE_good L N).len, (feM_good L N).1⟩)
  generalize EndE wr0 (syE L N) (syS L N) (feM L N) (feT L N) = T at *
  clear hT pc pd pe pb pf
  unfold encV at hz
  unfold memV at hy
  unfold CBg AnsC encV at PB
  unfold CFr AnsC memV at PF
  unfold encV memV at F
  have LB := hide begL_len
  have LF := hide freL_len
  have S0 := hide (show syE L 0 = begL from rfl)
  have S1 := hide (show feM L 0 = freL from rfl)
  generalize begL = BL at *
  generalize freL = FL at *
  have R0 := hide (show EnR wr0 ((wr0.alloc (.cells (encC (zeros 225) false).toArray 32)).alloc (.cells (memC (zeros 101) false).toArray 30)) from ⟨(BlkE.new wr0 (zeros 225) false).keep (grown_alloc _ _ none), by have := BlkM.new (wr0.alloc (.cells (encC (zeros 225) false).toArray 32)) (zeros 101) false; simpa using this⟩)
  have GW := hide (grown_none gw (grown_none (grown_alloc wr0 (.cells (encC (zeros 225) false).toArray 32) none) (grown_alloc _ (.cells (memC (zeros 101) false).toArray 30) none)))
  have GN := hide (grown_none (grown_alloc wr0 (.cells (encC (zeros 225) false).toArray 32) none) (grown_alloc _ (.cells (memC (zeros 101) false).toArray 30) none))
  clear gw
  go_enter Tryz.func17, Tryz.ntmps17
  go_upto_region 1 with fail
  generalize (wr0.alloc (.cells (encC (zeros 225) false).toArray 32)).alloc (.cells (memC (zeros 101) false).toArray 30) = W00 at *
  go_wp2_with fail
  refine (PB.out W00 GW.out).mono ?_
  rintro x W1 ⟨rfl, g1⟩
  have G1 := hide g1
  clear PB g1
  (try unfold encV)
  go_wp2_with fail
  refine (PF.out W1 (grown_none GW.out G1.out)).mono ?_
  rintro x W2 ⟨rfl, g2⟩
  have GX := hide (grown_none G1.out g2)
  have G2 := hide (grown_none GW.out GX.out)
  have GN2 := hide (grown_none GN.out GX.out)
  have R2 := hide (R0.out.keep GX.out)
  clear PF G1 g2 GX R0 GN
  (try unfold memV)
  have CB := hide (encC_len LB.out false)
  have CF := hide (memC_len LF.out false)
  have E0 := hide (show BlkE ((W2.alloc (.cells (encC (zeros 225) false).toArray 32)).alloc (.cells (memC (zeros 101) false).toArray 30)) W2.heap.size (zeros 225) false from (BlkE.new W2 (zeros 225) false).keep (grown_alloc _ _ none))
  have M0 := hide (show BlkM ((W2.alloc (.cells (encC (zeros 225) false).toArray 32)).alloc (.cells (memC (zeros 101) false).toArray 30)) (W2.heap.size + 1) (zeros 101) false from by have := BlkM.new (W2.alloc (.cells (encC (zeros 225) false).toArray 32)) (zeros 101) false; simpa using this)
  have GC := hide (show W2.grownBy ((W2.alloc (.cells (encC (zeros 225) false).toArray 32)).alloc (.cells (memC (zeros 101) false).toArray 30)) none from grown_none (grown_alloc W2 _ none) (grown_alloc _ _ none))
  have P1 := E0.out.putAll (m := BL) (t := false) (zeros_len 225) LB.out
  have M1 := hide (M0.out.keepBut P1.2 (by omega))
  have P2 := M1.out.putAll (m := FL) (t := false) (zeros_len 101) LF.out
  have E2 := hide (P1.1.keepBut P2.2 (by omega))
  have M2 := hide P2.1
  have HB := hide (World.grownBy.size G2.out)
  have HB2 := hide (show wr0.heap.size + 1 < W2.heap.size from R2.out.rm.lt)
  have G3 := hide (grown_own (grown_own (grown_none G2.out GC.out) P1.2 (World.grownBy.size G2.out)) P2.2 (by have := World.grownBy.size G2.out; omega))
  have R3 := hide (((R2.out.keep GC.out).but P1.2 HB2.out).but P2.2 (by have := HB2.out; omega))
  have GN3 := hide (grown_own (grown_own (grown_none GN2.out GC.out) P1.2 (World.grownBy.size GN2.out)) P2.2 (by have := World.grownBy.size GN2.out; omega))
  clear M0 GC P1 P2 G2 R2 GN2
  go_upto_region 2 with (first | refine wpList_store_v rfl 32 _ _ rfl W2.heap.size 0 32 (encC (zeros 225) false) (encC BL false) rfl rfl E0.out (by rw [ZL.out, CB.out]; omega) (by rw [CB.out]; exact size226) (encC_one _ _) ?_ | refine wpList_store_v rfl 30 _ _ rfl (W2.heap.size + 1) 0 30 (memC (zeros 101) false) (memC FL false) rfl rfl M1.out (by rw [ZM.out, CF.out]; omega) (by rw [CF.out]; exact size102) (memC_one _ _) ?_)
  (try simp only [Act.put])
  clear E0 M1
  generalize putV (putV ((W2.alloc (.cells (encC (zeros 225) false).toArray 32)).alloc (.cells (memC (zeros 101) false).toArray 30)) W2.heap.size 0 (encC BL false)) (W2.heap.size + 1) 0 (memC FL false) = W3 at *
  generalize W2.heap.size = bs at *
  go_wp2_with fail
  refine (TA.out W3).mono ?_
  rintro x W4 ⟨c', rfl, hc', rfl⟩
  clear TA GW
  go_wp2_with fail
  go_loopw [27] (fun i wr => ∃ k : Nat, i = .int .i64 k ∧ k ≤ N ∧ Hid (TwE w bs (bs + 1) (syE L k) (feM L k) (syS L k) (feT L k) wr) ∧ Hid (EnR wr0 wr) ∧ Hid (wr0.grownBy wr none)) (fun i _ => N - (intOf i).toNat)
  case atStart => exact ⟨0, rfl, Nat.zero_le _, ⟨by rw [S0.out]; exact E2.out, by rw [S1.out]; exact M2.out, G3.out⟩, R3.out, GN3.out⟩
  case round =>
    obtain ⟨k, rfl, hk, hI, hR, hX⟩ := hrel
    clear E2 M2 G3 S0 S1 LB LF CB CF R3 GN3
    by_cases hkn : k < N
    · obtain ⟨b, o, rfl, hTk⟩ := HT.out (by omega)
      have KT := talks_keep (hTk k (by omega)) hI.out.gr
      have IV := hI.out.es
      have IM := hI.out.ms
      have IG := hI.out.gr
      have IR := hR.out
      have IX := hX.out
      have GE := syE_good L k
      have GM := feM_good L k
      have RR := hide (tkR_of GE (frmL (L k).l) (frmL_len _) (frmL_right _) (L k).r)
      have A := hide (fun v' wr' g h sh => PC.out (syE L k) (syS L k) GE.len (goodE_64 GE) v' (frmL (L k).l) wr' g h sh (frm_64 _) (by rw [frmL_len]; omega) (L k).r)
      rw [show encB (syE L k) (frmL (L k).l) (L k).r = feB L k from rfl] at A
      have D := hide (fun v' b' wr' g h sh hb hl => PD.out (feM L k) (feT L k) GM.1 (good_64 GM.1 GM.2) v' b' wr' g h sh hb hl)
      have ER := hide (fun wr' g => PE.out (feM L k) (feT L k) GM.1 (good_64 GM.1 GM.2) wr' g)
      have FR0 := hide (fun wr' (g : wr.grownBy wr' none) => frame_any (L k).v (L k).l wr' (Ints_keep KT.li g) KT.len)
      have X0 := hide (show syE L (k + 1) = encM (syE L k) (frmL (L k).l) (L k).r from rfl)
      have X1 := hide (show syS L (k + 1) = encT (syE L k) (frmL (L k).l) (L k).r from rfl)
      have Y0 := hide (show spotN (L k).f 3 = 0 → feM L (k + 1) = decM (feM L k) (feB L k) ∧ feT L (k + 1) = decS (feM L k) (feB L k) from fun h => ⟨if_pos h, if_pos h⟩)
      have Y1 := hide (show ¬ spotN (L k).f 3 = 0 → feM L (k + 1) = ersM (feM L k) ∧ feT L (k + 1) = ersS (feM L k) (feT L k) from fun h => ⟨if_neg h, if_neg h⟩)
      have DE0 := hide (fe_dec L k GM.2).2.2
      have TU := hide (fun i hi z z0 z1 hz => (fe_turned L k GM.2 i hi z z0 z1 hz))
      have XL := hide (encM_len (l := frmL (L k).l) (L k).r GE.len)
      have EL := hide GE.len
      have MML := hide GM.1
      have DML := hide (fun b' => decM_len b' GM.1)
      have EML := hide (ersM_len (feM L k) GM.1)
      have EL80 := hide (ersL_right GM.1 GM.2).1
      have EE0 := hide (ers_yes (s := true) GM.2).2.2.2
      have FLn := hide (frmL_len (L k).l)
      have BLn := hide (feT_len L k)
      have BBy := hide (show byB (feB L k) from RR.out.by')
      unfold EncE at A
      unfold MemE at D ER
      rw [RR.out.er] at A
      have TV : ∃ a n c, (L k).v = .slice a n c := by obtain ⟨a, c, e, _⟩ := KT.li; exact ⟨a, _, c, e⟩
      have S3 := spot3 (L k).f
      have SP3 := hide (topSpot_any (L k).f 3 (by omega) (by omega))
      have SPA := hide (topSpot_any (L k).a 15 (by omega) (by omega))
      have SPM := hide (topSpot_any (L k).m 255 (by omega) (by omega))
      have qa : 0 ≤ spotN (L k).a 15 ∧ spotN (L k).a 15 < 15 := by unfold spotN; omega
      have qm : 0 ≤ spotN (L k).m 255 ∧ spotN (L k).m 255 < 255 := by unfold spotN; omega
      have k0 := KT.c0
      have k1 := KT.c1
      have k2 := KT.c2
      have k3 := KT.c3
      have k4 := KT.c4
      clear KT hTk RR GE GM hI hR hX PC PD PE HT F
      generalize encM (syE L k) (frmL (L k).l) (L k).r = X at *
      generalize encT (syE L k) (frmL (L k).l) (L k).r = t1 at *
      generalize encL (syE L k) (frmL (L k).l) (L k).r = HH at *
      generalize feB L k = BB at *
      generalize syE L k = E at *
      generalize syS L k = t0 at *
      generalize feM L k = MM at *
      generalize feT L k = u0 at *
      generalize frmL (L k).l = fl at *
      generalize (L k).v = tv at *
      generalize (L k).l = tl at *
      generalize (L k).r = tr at *
      generalize spotN (L k).f 3 = f3 at *
      generalize spotN (L k).a 15 = qa' at *
      generalize spotN (L k).m 255 = qm' at *
      generalize (L k).f = tf at *
      generalize (L k).a = ta at *
      generalize (L k).m = tm at *
      obtain ⟨av, nv, cv, rfl⟩ := TV
      have CE := hide (encC_len EL.out t0)
      have AE := hide (BlkE.all t0 EL.out)
      have CX := hide (encC_len XL.out t1)
      have AX := hide (BlkE.all t1 XL.out)
      have CM := hide (memC_len MML.out u0)
      have AM := hide (BlkM.all u0 MML.out)
      unfold encV memV at *
      have F0 := hide (heap_new wr (.cells #[.slice av nv cv, .bool tr, .int .i64 tf, .int .i64 ta, .int .i64 tm] 38))
      have GA := grown_alloc wr (.cells #[.slice av nv cv, .bool tr, .int .i64 tf, .int .i64 ta, .int .i64 tm] 38) none
      have ES := hide (IV.keep GA)
      have MS := hide (IM.keep GA)
      have GR := hide (grown_none IG GA)
      have RS := hide (IR.keep GA)
      have XS := hide (grown_none IX GA)
      have FR := hide (fun wr' (g : (wr.alloc (.cells #[.slice av nv cv, .bool tr, .int .i64 tf, .int .i64 ta, .int .i64 tm] 38)).grownBy wr' none) => FR0.out wr' (grown_none GA g))
      have LT := hide (show bs + 1 < wr.heap.size from BlkM.lt IM)
      clear IV IM IG GA FR0 IR IX
      go_upto_region 5 with fail
      clear k0 k1 k2 k3 k4
      generalize wr.alloc (.cells #[.slice av nv cv, .bool tr, .int .i64 tf, .int .i64 ta, .int .i64 tm] 38) = W0 at *
      have K0 := hide (show W0.cell? ⟨wr.heap.size, 0, none⟩ = some (.slice av nv cv) from cell_of_heap F0.out 0)
      have K1 := hide (show W0.cell? ⟨wr.heap.size, 1, none⟩ = some (.bool tr) from cell_of_heap F0.out 1)
      have TB0 := hide (show BlkV W0 wr.heap.size 38 [.slice av nv cv, .bool tr, .int .i64 tf, .int .i64 ta, .int .i64 tm] from F0.out)
      clear F0
      have LW := hide (show bs + 1 < W0.heap.size from BlkM.lt MS.out)
      generalize wr.heap.size = bt at *
      go_cut [9, 10, 11, 12] from 29 to 114 (fun s7 s8 s9 s10 wx => EncR W0 X t1 BB HH 0 s7 s8 s9 s10 wx)
      case first =>
        clear SP3 SPA SPM D ER TU Y0 Y1 DE0 DML EML EL80 EE0 S3 qa qm X0 X1 MML BBy MS RS XS TB0 LT LW CM AM AX HB HB2 LEN ZM hN12 hN2 hc63 hc hc'
        refine wp_region_held_drew (S := GrownW W0) (by kernel_rfl) (gw_start _) (fun hHeld => ?_)
        refine wpAnyH_take (i := 0) (v := .agg (encC E t0).toArray) rfl (by kernel_rfl) (by kernel_rfl) (by kernel_rfl) (fun _ _ _ h => h) (Or.inl ⟨by rfl, ?ykt1⟩) hHeld ?rkt1
        case ykt1 => (intro w' hSw; exact yields_load_v rfl rfl (BlkE.keep ES.out hSw) _ Tryz.underlying32 rfl size226 (by rw [CE.out]; omega) _ AE.out)
        (try simp only [Act.put, sL])
        refine wpAnyH_take (i := 1) (v := ?vkt2) rfl (by kernel_rfl) (by kernel_rfl) (by kernel_rfl) (fun _ _ _ h => h) (Or.inl ⟨by rfl, ?ykt2⟩) hHeld ?rkt2
        case ykt2 => (intro w' hSw; go_simp; (try with_reducible rfl))
        (try simp only [Act.put, sL])
        refine wpAnyH_take (i := 2) (v := .slice av nv cv) rfl (by kernel_rfl) (by kernel_rfl) (by kernel_rfl) (fun _ _ _ h => h) (Or.inl ⟨by rfl, ?ykt3⟩) hHeld ?rkt3
        case ykt3 => (intro w' hSw; have qc := grown_keep hSw K0.out; go_simp; (try with_reducible rfl))
        (try simp only [Act.put, sL])
        refine wpAnyH_take (i := 4) (v := ?vkt4) rfl (by kernel_rfl) (by kernel_rfl) (by kernel_rfl) (fun _ _ _ h => h) (Or.inl ⟨by rfl, ?ykt4⟩) hHeld ?rkt4
        case ykt4 => (intro w' hSw; go_simp; (try with_reducible rfl))
        (try simp only [Act.put, sL])
        refine wpAnyH_take (i := 5) (v := .bool tr) rfl (by kernel_rfl) (by kernel_rfl) (by kernel_rfl) (fun _ _ _ h => h) (Or.inl ⟨by rfl, ?ykt5⟩) hHeld ?rkt5
        case ykt5 => (intro w' hSw; have qc := grown_keep hSw K1.out; go_simp; (try with_reducible rfl))
        (try simp only [Act.put, sL])
        refine wpAnyH_ready (rs := [3, 12]) (by kernel_rfl) (by simp) (AllReadyH.cons rfl (fun K hK => ?gkt6) (AllReadyH.cons rfl (fun K hK => ?gkt7) AllReadyH.nil))
        case gkt6 =>
          (try simp only [Act.put, sL])
          go_simp
          refine (FR.out _ hHeld).mono ?_
          rintro e wkt8 ⟨bf, rfl, hb, hbf, gkt8⟩
          have Gkt8 := hide gkt8
          have OF := hide (hb)
          clear gkt8 hb hbf
          (try unfold memV)
          (try unfold encV)
          go_wp2_with fail
          refine hK.out _ _ (gw_trans hHeld Gkt8.out) (fun hHeld => ?_)
          clear hK
          (try simp only [Act.put, sL])
          refine wpAnyH_ready (rs := [6, 12]) (by kernel_rfl) (by simp) (AllReadyH.cons rfl (fun K hK => ?gkt9) (AllReadyH.cons rfl (fun K hK => ?gkt10) AllReadyH.nil))
          case gkt9 =>
            (try simp only [Act.put, sL])
            go_simp
            refine (A.out _ _ (grown_none GR.out hHeld) (ints80 OF.out FLn.out) (SH80.out _ _ FLn.out)).mono ?_
            rintro e wkt11 ⟨vb, vl, rfl, ob, ol, gkt11⟩
            have Gkt11 := hide gkt11
            have OB := hide (ob.base (b' := W0.heap.size) (World.grownBy.size hHeld))
            have OL := hide (ol.base (b' := W0.heap.size) (World.grownBy.size hHeld))
            clear gkt11 ob ol
            (try unfold memV)
            (try unfold encV)
            go_wp2_with fail
            refine hK.out _ _ (gw_trans hHeld Gkt11.out) (fun hHeld => ?_)
            clear hK
            have OF := hide (OF.out.keep Gkt11.out)
            (try simp only [Act.put, sL])
            refine wpAnyH_take (i := 7) (v := ?vkt12) rfl (by kernel_rfl) (by kernel_rfl) (by kernel_rfl) (fun _ _ _ h => h) (Or.inl ⟨by rfl, ?ykt12⟩) hHeld ?rkt12
            case ykt12 => (intro w' hSw; go_simp; (try with_reducible rfl))
            (try simp only [Act.put, sL])
            refine wpAnyH_take (i := 8) (v := ?vkt13) rfl (by kernel_rfl) (by kernel_rfl) (by kernel_rfl) (fun _ _ _ h => h) (Or.inl ⟨by rfl, ?ykt13⟩) hHeld ?rkt13
            case ykt13 => (intro w' hSw; go_simp; (try with_reducible rfl))
            (try simp only [Act.put, sL])
            refine wpAnyH_take (i := 9) (v := ?vkt14) rfl (by kernel_rfl) (by kernel_rfl) (by kernel_rfl) (fun _ _ _ h => h) (Or.inl ⟨by rfl, ?ykt14⟩) hHeld ?rkt14
            case ykt14 => (intro w' hSw; go_simp; (try with_reducible rfl))
            (try simp only [Act.put, sL])
            refine wpAnyH_take (i := 10) (v := ?vkt15) rfl (by kernel_rfl) (by kernel_rfl) (by kernel_rfl) (fun _ _ _ h => h) (Or.inl ⟨by rfl, ?ykt15⟩) hHeld ?rkt15
            case ykt15 => (intro w' hSw; go_simp; (try with_reducible rfl))
            (try simp only [Act.put, sL])
            refine wpAnyH_take (i := 11) (v := ?vkt16) rfl (by kernel_rfl) (by kernel_rfl) (by kernel_rfl) (fun _ _ _ h => h) (Or.inl ⟨by rfl, ?ykt16⟩) hHeld ?rkt16
            case ykt16 => (intro w' hSw; go_simp; (try with_reducible rfl))
            (try simp only [Act.put, sL])
            refine wpAnyH_ready (rs := [12]) (by kernel_rfl) (by simp) (AllReadyH.cons rfl (fun K hK => ?_) AllReadyH.nil)
            (try simp only [Act.put, sL])
            go_simp
            go_wp2_with fail
            have HB := hide (show W0.heap.size ≤ wkt11.heap.size from by first | exact Nat.le_refl _ | exact World.grownBy.size hHeld)
            refine hK.out _ _ (gw_alloc hHeld (.cells (encC (zeros 225) false).toArray 32)) (fun hHeld => ?_)
            clear hK
            have HZ := hide (show BlkE (wkt11.alloc (.cells (encC (zeros 225) false).toArray 32)) wkt11.heap.size (zeros 225) false from BlkE.new wkt11 (zeros 225) false)
            have OB := hide (OB.out.keep (grown_alloc wkt11 (.cells (encC (zeros 225) false).toArray 32) none))
            have OL := hide (OL.out.keep (grown_alloc wkt11 (.cells (encC (zeros 225) false).toArray 32) none))
            generalize wkt11.alloc (.cells (encC (zeros 225) false).toArray 32) = wzkt17 at *
            (try simp only [Act.put, sL])
            refine wpAnyH_ready (rs := [13]) (by kernel_rfl) (by simp) (AllReadyH.cons rfl (fun K hK => ?_) AllReadyH.nil)
            (try simp only [Act.put, sL])
            refine step_store_v rfl 32 _ _ rfl (wkt11.heap.size) 0 32 (encC (zeros 225) false) (encC X t1) rfl rfl HZ.out (by rw [ZL.out, CX.out]; omega) (by rw [CX.out]; exact size226) (encC_one _ _) ?_
            have PU := HZ.out.putAll (m := X) (t := t1) (zeros_len 225) XL.out
            have OB := hide (OB.out.keepBut PU.2 HZ.out (by decide))
            have OL := hide (OL.out.keepBut PU.2 HZ.out (by decide))
            refine hK.out _ _ (gw_own hHeld PU.2 HB.out) (fun hHeld => ?_)
            clear hK
            (try simp only [Act.put, sL])
            refine wpAnyH_take (i := 14) (v := ?vkt19) rfl (by kernel_rfl) (by kernel_rfl) (by kernel_rfl) (fun _ _ _ h => h) (Or.inl ⟨by rfl, ?ykt19⟩) hHeld ?rkt19
            case ykt19 => (intro w' hSw; go_simp; (try with_reducible rfl))
            (try simp only [Act.put, sL])
            refine wpAnyH_take (i := 15) (v := ?vkt20) rfl (by kernel_rfl) (by kernel_rfl) (by kernel_rfl) (fun _ _ _ h => h) (Or.inl ⟨by rfl, ?ykt20⟩) hHeld ?rkt20
            case ykt20 => (intro w' hSw; go_simp; (try with_reducible rfl))
            (try simp only [Act.put, sL])
            refine wpAnyH_take (i := 16) (v := ?vkt21) rfl (by kernel_rfl) (by kernel_rfl) (by kernel_rfl) (fun _ _ _ h => h) (Or.inl ⟨by rfl, ?ykt21⟩) hHeld ?rkt21
            case ykt21 => (intro w' hSw; go_simp; (try with_reducible rfl))
            (try simp only [Act.put, sL])
            refine wpAnyH_done (by kernel_rfl) ?_ _
            go_wp2_with fail
            go_meet
            exact ⟨wkt11.heap.size, rfl, rfl, PU.1, OB.out, OL.out, HB.out, hHeld⟩
          case gkt10 =>
            (try simp only [Act.put, sL])
            go_simp
            go_wp2_with fail
            have HB := hide (show W0.heap.size ≤ wkt8.heap.size from by first | exact Nat.le_refl _ | exact World.grownBy.size hHeld)
            refine hK.out _ _ (gw_alloc hHeld (.cells (encC (zeros 225) false).toArray 32)) (fun hHeld => ?_)
            clear hK
            have HZ := hide (show BlkE (wkt8.alloc (.cells (encC (zeros 225) false).toArray 32)) wkt8.heap.size (zeros 225) false from BlkE.new wkt8 (zeros 225) false)
            have OF := hide (OF.out.keep (grown_alloc wkt8 (.cells (encC (zeros 225) false).toArray 32) none))
            generalize wkt8.alloc (.cells (encC (zeros 225) false).toArray 32) = wzkt22 at *
            (try simp only [Act.put, sL])
            refine wpAnyH_ready (rs := [6]) (by kernel_rfl) (by simp) (AllReadyH.cons rfl (fun K hK => ?_) AllReadyH.nil)
            (try simp only [Act.put, sL])
            go_simp
            refine (A.out _ _ (grown_none GR.out hHeld) (ints80 OF.out FLn.out) (SH80.out _ _ FLn.out)).mono ?_
            rintro e wkt23 ⟨vb, vl, rfl, ob, ol, gkt23⟩
            have Gkt23 := hide gkt23
            have OB := hide (ob.base (b' := W0.heap.size) (World.grownBy.size hHeld))
            have OL := hide (ol.base (b' := W0.heap.size) (World.grownBy.size hHeld))
            clear gkt23 ob ol
            (try unfold memV)
            (try unfold encV)
            go_wp2_with fail
            refine hK.out _ _ (gw_trans hHeld Gkt23.out) (fun hHeld => ?_)
            clear hK
            have OF := hide (OF.out.keep Gkt23.out)
            have HZ := hide (HZ.out.keep Gkt23.out)
            (try simp only [Act.put, sL])
            refine wpAnyH_take (i := 7) (v := ?vkt24) rfl (by kernel_rfl) (by kernel_rfl) (by kernel_rfl) (fun _ _ _ h => h) (Or.inl ⟨by rfl, ?ykt24⟩) hHeld ?rkt24
            case ykt24 => (intro w' hSw; go_simp; (try with_reducible rfl))
            (try simp only [Act.put, sL])
            refine wpAnyH_take (i := 8) (v := ?vkt25) rfl (by kernel_rfl) (by kernel_rfl) (by kernel_rfl) (fun _ _ _ h => h) (Or.inl ⟨by rfl, ?ykt25⟩) hHeld ?rkt25
            case ykt25 => (intro w' hSw; go_simp; (try with_reducible rfl))
            (try simp only [Act.put, sL])
            refine wpAnyH_take (i := 9) (v := ?vkt26) rfl (by kernel_rfl) (by kernel_rfl) (by kernel_rfl) (fun _ _ _ h => h) (Or.inl ⟨by rfl, ?ykt26⟩) hHeld ?rkt26
            case ykt26 => (intro w' hSw; go_simp; (try with_reducible rfl))
            (try simp only [Act.put, sL])
            refine wpAnyH_take (i := 10) (v := ?vkt27) rfl (by kernel_rfl) (by kernel_rfl) (by kernel_rfl) (fun _ _ _ h => h) (Or.inl ⟨by rfl, ?ykt27⟩) hHeld ?rkt27
            case ykt27 => (intro w' hSw; go_simp; (try with_reducible rfl))
            (try simp only [Act.put, sL])
            refine wpAnyH_take (i := 11) (v := ?vkt28) rfl (by kernel_rfl) (by kernel_rfl) (by kernel_rfl) (fun _ _ _ h => h) (Or.inl ⟨by rfl, ?ykt28⟩) hHeld ?rkt28
            case ykt28 => (intro w' hSw; go_simp; (try with_reducible rfl))
            (try simp only [Act.put, sL])
            refine wpAnyH_ready (rs := [13]) (by kernel_rfl) (by simp) (AllReadyH.cons rfl (fun K hK => ?_) AllReadyH.nil)
            (try simp only [Act.put, sL])
            refine step_store_v rfl 32 _ _ rfl (wkt8.heap.size) 0 32 (encC (zeros 225) false) (encC X t1) rfl rfl HZ.out (by rw [ZL.out, CX.out]; omega) (by rw [CX.out]; exact size226) (encC_one _ _) ?_
            have PU := HZ.out.putAll (m := X) (t := t1) (zeros_len 225) XL.out
            have OB := hide (OB.out.keepBut PU.2 HZ.out (by decide))
            have OL := hide (OL.out.keepBut PU.2 HZ.out (by decide))
            refine hK.out _ _ (gw_own hHeld PU.2 HB.out) (fun hHeld => ?_)
            clear hK
            (try simp only [Act.put, sL])
            refine wpAnyH_take (i := 14) (v := ?vkt30) rfl (by kernel_rfl) (by kernel_rfl) (by kernel_rfl) (fun _ _ _ h => h) (Or.inl ⟨by rfl, ?ykt30⟩) hHeld ?rkt30
            case ykt30 => (intro w' hSw; go_simp; (try with_reducible rfl))
            (try simp only [Act.put, sL])
            refine wpAnyH_take (i := 15) (v := ?vkt31) rfl (by kernel_rfl) (by kernel_rfl) (by kernel_rfl) (fun _ _ _ h => h) (Or.inl ⟨by rfl, ?ykt31⟩) hHeld ?rkt31
            case ykt31 => (intro w' hSw; go_simp; (try with_reducible rfl))
            (try simp only [Act.put, sL])
            refine wpAnyH_take (i := 16) (v := ?vkt32) rfl (by kernel_rfl) (by kernel_rfl) (by kernel_rfl) (fun _ _ _ h => h) (Or.inl ⟨by rfl, ?ykt32⟩) hHeld ?rkt32
            case ykt32 => (intro w' hSw; go_simp; (try with_reducible rfl))
            (try simp only [Act.put, sL])
            refine wpAnyH_done (by kernel_rfl) ?_ _
            go_wp2_with fail
            go_meet
            exact ⟨wkt8.heap.size, rfl, rfl, PU.1, OB.out, OL.out, HB.out, hHeld⟩
        case gkt7 =>
          (try simp only [Act.put, sL])
          go_simp
          go_wp2_with fail
          have HB := hide (show W0.heap.size ≤ W0.heap.size from by first | exact Nat.le_refl _ | exact World.grownBy.size hHeld)
          refine hK.out _ _ (gw_alloc hHeld (.cells (encC (zeros 225) false).toArray 32)) (fun hHeld => ?_)
          clear hK
          have HZ := hide (show BlkE ((W0.alloc (.cells (encC (zeros 225) false).toArray 32)).drew) W0.heap.size (zeros 225) false from BlkE.new W0.drew (zeros 225) false)
          generalize (W0.alloc (.cells (encC (zeros 225) false).toArray 32)).drew = wzkt33 at *
          (try simp only [Act.put, sL])
          refine wpAnyH_ready (rs := [3]) (by kernel_rfl) (by simp) (AllReadyH.cons rfl (fun K hK => ?_) AllReadyH.nil)
          (try simp only [Act.put, sL])
          go_simp
          refine (FR.out _ hHeld).mono ?_
          rintro e wkt34 ⟨bf, rfl, hb, hbf, gkt34⟩
          have Gkt34 := hide gkt34
          have OF := hide (hb)
          clear gkt34 hb hbf
          (try unfold memV)
          (try unfold encV)
          go_wp2_with fail
          refine hK.out _ _ (gw_trans hHeld Gkt34.out) (fun hHeld => ?_)
          clear hK
          have HZ := hide (HZ.out.keep Gkt34.out)
          (try simp only [Act.put, sL])
          refine wpAnyH_ready (rs := [6]) (by kernel_rfl) (by simp) (AllReadyH.cons rfl (fun K hK => ?_) AllReadyH.nil)
          (try simp only [Act.put, sL])
          go_simp
          refine (A.out _ _ (grown_none GR.out hHeld) (ints80 OF.out FLn.out) (SH80.out _ _ FLn.out)).mono ?_
          rintro e wkt35 ⟨vb, vl, rfl, ob, ol, gkt35⟩
          have Gkt35 := hide gkt35
          have OB := hide (ob.base (b' := W0.heap.size) (World.grownBy.size hHeld))
          have OL := hide (ol.base (b' := W0.heap.size) (World.grownBy.size hHeld))
          clear gkt35 ob ol
          (try unfold memV)
          (try unfold encV)
          go_wp2_with fail
          refine hK.out _ _ (gw_trans hHeld Gkt35.out) (fun hHeld => ?_)
          clear hK
          have HZ := hide (HZ.out.keep Gkt35.out)
          have OF := hide (OF.out.keep Gkt35.out)
          (try simp only [Act.put, sL])
          refine wpAnyH_take (i := 7) (v := ?vkt36) rfl (by kernel_rfl) (by kernel_rfl) (by kernel_rfl) (fun _ _ _ h => h) (Or.inl ⟨by rfl, ?ykt36⟩) hHeld ?rkt36
          case ykt36 => (intro w' hSw; go_simp; (try with_reducible rfl))
          (try simp only [Act.put, sL])
          refine wpAnyH_take (i := 8) (v := ?vkt37) rfl (by kernel_rfl) (by kernel_rfl) (by kernel_rfl) (fun _ _ _ h => h) (Or.inl ⟨by rfl, ?ykt37⟩) hHeld ?rkt37
          case ykt37 => (intro w' hSw; go_simp; (try with_reducible rfl))
          (try simp only [Act.put, sL])
          refine wpAnyH_take (i := 9) (v := ?vkt38) rfl (by kernel_rfl) (by kernel_rfl) (by kernel_rfl) (fun _ _ _ h => h) (Or.inl ⟨by rfl, ?ykt38⟩) hHeld ?rkt38
          case ykt38 => (intro w' hSw; go_simp; (try with_reducible rfl))
          (try simp only [Act.put, sL])
          refine wpAnyH_take (i := 10) (v := ?vkt39) rfl (by kernel_rfl) (by kernel_rfl) (by kernel_rfl) (fun _ _ _ h => h) (Or.inl ⟨by rfl, ?ykt39⟩) hHeld ?rkt39
          case ykt39 => (intro w' hSw; go_simp; (try with_reducible rfl))
          (try simp only [Act.put, sL])
          refine wpAnyH_take (i := 11) (v := ?vkt40) rfl (by kernel_rfl) (by kernel_rfl) (by kernel_rfl) (fun _ _ _ h => h) (Or.inl ⟨by rfl, ?ykt40⟩) hHeld ?rkt40
          case ykt40 => (intro w' hSw; go_simp; (try with_reducible rfl))
          (try simp only [Act.put, sL])
          refine wpAnyH_ready (rs := [13]) (by kernel_rfl) (by simp) (AllReadyH.cons rfl (fun K hK => ?_) AllReadyH.nil)
          (try simp only [Act.put, sL])
          refine step_store_v rfl 32 _ _ rfl (W0.heap.size) 0 32 (encC (zeros 225) false) (encC X t1) rfl rfl HZ.out (by rw [ZL.out, CX.out]; omega) (by rw [CX.out]; exact size226) (encC_one _ _) ?_
          have PU := HZ.out.putAll (m := X) (t := t1) (zeros_len 225) XL.out
          have OB := hide (OB.out.keepBut PU.2 HZ.out (by decide))
          have OL := hide (OL.out.keepBut PU.2 HZ.out (by decide))
          refine hK.out _ _ (gw_own hHeld PU.2 HB.out) (fun hHeld => ?_)
          clear hK
          (try simp only [Act.put, sL])
          refine wpAnyH_take (i := 14) (v := ?vkt42) rfl (by kernel_rfl) (by kernel_rfl) (by kernel_rfl) (fun _ _ _ h => h) (Or.inl ⟨by rfl, ?ykt42⟩) hHeld ?rkt42
          case ykt42 => (intro w' hSw; go_simp; (try with_reducible rfl))
          (try simp only [Act.put, sL])
          refine wpAnyH_take (i := 15) (v := ?vkt43) rfl (by kernel_rfl) (by kernel_rfl) (by kernel_rfl) (fun _ _ _ h => h) (Or.inl ⟨by rfl, ?ykt43⟩) hHeld ?rkt43
          case ykt43 => (intro w' hSw; go_simp; (try with_reducible rfl))
          (try simp only [Act.put, sL])
          refine wpAnyH_take (i := 16) (v := ?vkt44) rfl (by kernel_rfl) (by kernel_rfl) (by kernel_rfl) (fun _ _ _ h => h) (Or.inl ⟨by rfl, ?ykt44⟩) hHeld ?rkt44
          case ykt44 => (intro w' hSw; go_simp; (try with_reducible rfl))
          (try simp only [Act.put, sL])
          refine wpAnyH_done (by kernel_rfl) ?_ _
          go_wp2_with fail
          go_meet
          exact ⟨W0.heap.size, rfl, rfl, PU.1, OB.out, OL.out, HB.out, hHeld⟩
      case rest =>
      obtain ⟨b1, rfl, rfl, v1b, ob1, ol1, hb1, g1⟩ := hcut
      have V1 := hide v1b
      have B1 := hide ob1
      have G1 := hide (grown_none GR.out g1)
      have S1 := hide (ES.out.keep g1)
      have M1 := hide (MS.out.keep g1)
      have R1 := hide (RS.out.keep g1)
      have X2 := hide (grown_none XS.out g1)
      have TB1 := hide (TB0.out.keep g1)
      have LB1 := hide (show bs + 1 < b1 from Nat.lt_of_lt_of_le LW.out hb1)
      obtain ⟨gb, cb, rfl, _, _, _⟩ := ob1.form (by rw [BLn.out]; omega)
      rw [BLn.out] at B1 ⊢
      clear v1b ob1 ol1 g1 hb1 A FR K0 K1 TB0 ES MS GR RS XS
      -- the session goes on
      have PS := S1.out.putAll (m := X) (t := t1) EL.out XL.out
      have S2 := hide PS.1
      have M2 := hide (M1.out.keepBut PS.2 (by omega))
      have R2 := hide (R1.out.but PS.2 HB2.out)
      have G2 := hide (grown_own G1.out PS.2 HB.out)
      have X3 := hide (grown_own X2.out PS.2 (by have := HB2.out; omega))
      have B2 := hide (B1.out.keepLt PS.2 (by have := LW.out; omega))
      have T2 := hide (TB1.out.keepBut PS.2 (by have := LT.out; omega))
      clear PS M1 R1 G1 X2 B1 TB1
      go_upto_region 9 with (first | refine wpList_load_v rfl 32 _ rfl b1 0 226 rfl 32 (encC X t1) V1.out _ Tryz.underlying32 rfl size226 (by rw [CX.out]; omega) _ AX.out ?_ | refine wpList_store_v rfl 32 _ _ rfl bs 0 32 (encC E t0) (encC X t1) rfl rfl S1.out (by rw [CE.out, CX.out]; omega) (by rw [CX.out]; exact size226) (encC_one _ _) ?_)
      (try simp only [Act.put])
      clear S1 V1
      generalize putV _ bs 0 (encC X t1) = W5 at *
      have cf := (T2.out.cell 2)
      simp at cf
      rcases S3 with h0 | h1 | h2
      · -- it comes
        obtain ⟨y0, y1⟩ := Y0.out h0
        have YY0 := hide y0
        have YY1 := hide y1
        subst h0
        go_wp2_with fail
        refine (SP3.out _).mono ?_
        rintro x w1 ⟨rfl, rfl⟩
        clear SP3 SPA SPM ER TU Y0 Y1 EL80 EE0 EML y0 y1 cf
        have D0 := hide (D.out _ BB _ G2.out B2.out.byts B2.out.shp BBy.out (by rw [BLn.out]; omega))
        rw [DE0.out] at D0
        have DL := hide (DML.out BB)
        clear D DML
        generalize decM MM BB = NM at *
        generalize decS MM BB = u1 at *
        generalize decL MM BB = KL at *
        have CN := hide (memC_len DL.out u1)
        have AN := hide (BlkM.all u1 DL.out)
        go_wp2_with (first | refine wpList_load_v rfl 30 _ rfl (bs + 1) 0 102 rfl 30 (memC MM u0) M2.out _ Tryz.underlying30 rfl size102 (by rw [CM.out]; omega) _ AM.out ?_)
        refine D0.out.mono ?_
        rintro x W6 ⟨v6, rfl, _, g6⟩
        (try unfold memV)
        have FB := hide (fresh_mem W6 NM u1 DL.out)
        have GB := hide (grown_none g6 FB.out.2.2)
        have M9 := hide (M2.out.keep GB.out)
        have S9 := hide (S2.out.keep GB.out)
        have R9 := hide (R2.out.keep GB.out)
        have G9 := hide (grown_none G2.out GB.out)
        have X9 := hide (grown_none X3.out GB.out)
        have NBN := hide (show bs + 1 < W6.heap.size from Nat.lt_of_lt_of_le (BlkM.lt M2.out) (World.grownBy.size g6))
        clear GB g6 M2 S2 R2 G2 X3 D0
        go_upto_region 11 with (first | refine wpList_store_v rfl 30 _ _ rfl W6.heap.size 0 30 (memC (zeros 101) false) (memC NM u1) rfl rfl FB.out.1 (by rw [ZM.out, CN.out]; omega) (by rw [CN.out]; exact size102) (memC_one _ _) ?_)
        (try simp only [Act.put])
        have N7 := hide FB.out.2.1
        clear FB
        generalize putV (W6.alloc (.cells (memC (zeros 101) false).toArray 30)) W6.heap.size 0 (memC NM u1) = W9 at *
        generalize W6.heap.size = bn at *
        have PM := M9.out.putAll (m := NM) (t := u1) MML.out DL.out
        have RE := hide (show TwE w bs (bs + 1) X NM t1 u1 (putV W9 (bs + 1) 0 (memC NM u1)) from ⟨S9.out.keepBut PM.2 (by omega), PM.1, grown_own G9.out PM.2 (Nat.le_succ_of_le HB.out)⟩)
        have RR9 := hide (R9.out.but PM.2 (by have := HB2.out; omega))
        have XX9 := hide (grown_own X9.out PM.2 (by have := HB2.out; omega))
        clear PM S9 G9 R9 X9
        go_upto_region 23 with (first | refine wpList_load_v rfl 30 _ rfl bn 0 102 rfl 30 (memC NM u1) N7.out _ Tryz.underlying30 rfl size102 (by rw [CN.out]; omega) _ AN.out ?_ | refine wpList_store_v rfl 30 _ _ rfl (bs + 1) 0 30 (memC MM u0) (memC NM u1) rfl rfl M9.out (by rw [CM.out, CN.out]; omega) (by rw [CN.out]; exact size102) (memC_one _ _) ?_)
        (try simp only [Act.put])
        clear M9 N7
        generalize putV W9 (bs + 1) 0 (memC NM u1) = W8 at *
        go_wp2_with fail
        have RL : ∃ j : Nat, Value.int .i64 ((k : Int) + 1) = .int .i64 j ∧ j ≤ N ∧ Hid (TwE w bs (bs + 1) (syE L j) (feM L j) (syS L j) (feT L j) W8) ∧ Hid (EnR wr0 W8) ∧ Hid (wr0.grownBy W8 none) := ⟨k + 1, by go_num, by omega, by rw [X0.out, X1.out, YY0.out, YY1.out]; exact RE.out, RR9.out, XX9.out⟩
        go_roundw
        case rel => exact RL
        case measure => simp [intOf]; omega
      · -- it is lost
        have hne : ¬ f3 = 0 := by omega
        obtain ⟨y0, y1⟩ := Y1.out hne
        have YY0 := hide y0
        have YY1 := hide y1
        have hb0 : (f3 == 0) = false := beq_eq_false_iff_ne.2 hne
        have hb2 : (f3 == 2) = false := beq_eq_false_iff_ne.2 (by omega)
        clear hne
        go_wp2_with fail
        refine (SP3.out _).mono ?_
        rintro x w1 ⟨rfl, rfl⟩
        go_wp2_with fail
        refine (SP3.out _).mono ?_
        rintro x w2 ⟨rfl, rfl⟩
        clear SP3 SPA SPM D TU Y0 Y1 DE0 DML y0 y1 cf h1
        have D0 := hide (ER.out _ G2.out)
        rw [EE0.out] at D0
        have DL := EML
        clear ER EE0 EML
        generalize ersM MM = NM at *
        generalize ersS MM u0 = u1 at *
        have KLn := EL80
        generalize ersL MM = KL at *
        have CN := hide (memC_len DL.out u1)
        have AN := hide (BlkM.all u1 DL.out)
        go_upto_region 19 with fail
        go_wp2_with (first | refine wpList_load_v rfl 30 _ rfl (bs + 1) 0 102 rfl 30 (memC MM u0) M2.out _ Tryz.underlying30 rfl size102 (by rw [CM.out]; omega) _ AM.out ?_)
        refine D0.out.mono ?_
        rintro x W6 ⟨v6, rfl, o6, g6⟩
        obtain ⟨gk, ck, rfl, _, _, _⟩ := o6.form (by rw [KLn.out]; omega)
        rw [KLn.out]
        clear o6
        (try unfold memV)
        have FB := hide (fresh_mem W6 NM u1 DL.out)
        have GB := hide (grown_none g6 FB.out.2.2)
        have M9 := hide (M2.out.keep GB.out)
        have S9 := hide (S2.out.keep GB.out)
        have R9 := hide (R2.out.keep GB.out)
        have G9 := hide (grown_none G2.out GB.out)
        have X9 := hide (grown_none X3.out GB.out)
        have NBN := hide (show bs + 1 < W6.heap.size from Nat.lt_of_lt_of_le (BlkM.lt M2.out) (World.grownBy.size g6))
        clear GB g6 M2 S2 R2 G2 X3 D0
        go_upto_region 20 with (first | refine wpList_store_v rfl 30 _ _ rfl W6.heap.size 0 30 (memC (zeros 101) false) (memC NM u1) rfl rfl FB.out.1 (by rw [ZM.out, CN.out]; omega) (by rw [CN.out]; exact size102) (memC_one _ _) ?_)
        (try simp only [Act.put])
        have N7 := hide FB.out.2.1
        clear FB
        generalize putV (W6.alloc (.cells (memC (zeros 101) false).toArray 30)) W6.heap.size 0 (memC NM u1) = W9 at *
        generalize W6.heap.size = bn at *
        have PM := M9.out.putAll (m := NM) (t := u1) MML.out DL.out
        have RE := hide (show TwE w bs (bs + 1) X NM t1 u1 (putV W9 (bs + 1) 0 (memC NM u1)) from ⟨S9.out.keepBut PM.2 (by omega), PM.1, grown_own G9.out PM.2 (Nat.le_succ_of_le HB.out)⟩)
        have RR9 := hide (R9.out.but PM.2 (by have := HB2.out; omega))
        have XX9 := hide (grown_own X9.out PM.2 (by have := HB2.out; omega))
        clear PM S9 G9 R9 X9
        go_upto_region 23 with (first | refine wpList_load_v rfl 30 _ rfl bn 0 102 rfl 30 (memC NM u1) N7.out _ Tryz.underlying30 rfl size102 (by rw [CN.out]; omega) _ AN.out ?_ | refine wpList_store_v rfl 30 _ _ rfl (bs + 1) 0 30 (memC MM u0) (memC NM u1) rfl rfl M9.out (by rw [CM.out, CN.out]; omega) (by rw [CN.out]; exact size102) (memC_one _ _) ?_)
        (try simp only [Act.put])
        clear M9 N7
        generalize putV W9 (bs + 1) 0 (memC NM u1) = W8 at *
        go_wp2_with fail
        have RL : ∃ j : Nat, Value.int .i64 ((k : Int) + 1) = .int .i64 j ∧ j ≤ N ∧ Hid (TwE w bs (bs + 1) (syE L j) (feM L j) (syS L j) (feT L j) W8) ∧ Hid (EnR wr0 W8) ∧ Hid (wr0.grownBy W8 none) := ⟨k + 1, by go_num, by omega, by rw [X0.out, X1.out, YY0.out, YY1.out]; exact RE.out, RR9.out, XX9.out⟩
        go_roundw
        case rel => exact RL
        case measure => simp [intOf]; omega
      · -- a byte is turned
        have hne : ¬ f3 = 0 := by omega
        obtain ⟨y0, y1⟩ := Y1.out hne
        have YY0 := hide y0
        have YY1 := hide y1
        have hb0 : (f3 == 0) = false := beq_eq_false_iff_ne.2 hne
        have hb2 : (f3 == 2) = true := beq_iff_eq.2 h2
        clear hne
        go_wp2_with fail
        refine (SP3.out _).mono ?_
        rintro x w1 ⟨rfl, rfl⟩
        go_wp2_with fail
        refine (SP3.out _).mono ?_
        rintro x w2 ⟨rfl, rfl⟩
        clear SP3 Y0 Y1 DE0 y0 y1 cf h2
        obtain ⟨ai, hai⟩ : ∃ ai : Nat, qa' = (ai : Int) := ⟨qa'.toNat, by omega⟩
        subst hai
        have a15 : ai < 15 := by omega
        have a15' : (ai : Int) < 15 := by omega
        have by' := BBy.out ai
        obtain ⟨z0, z1, z2⟩ := xor_u8T (nth BB ai) (1 + qm') by'.1 by'.2 (by omega) (by omega)
        obtain ⟨xx, hxx⟩ : ∃ xx, bits .xor .u8 (nth BB ai) (1 + qm') = xx := ⟨_, rfl⟩
        rw [hxx] at z0 z1 z2
        have XX := hide hxx
        have hcv : IntKind.u8.wrap (1 + qm') = 1 + qm' := by rw [IntKind.wrap_u8]; omega
        have hm256 : (1 + qm') % 256 = 1 + qm' := by omega
        have w1q := wrapI (1 + qm') (by omega) (by omega)
        have TT := hide (TU.out ai a15 xx z0 z1 z2)
        have BY2 := hide (show byB (BB.set ai xx) from fun i => by
          rw [setN _ _ _ (by rw [BLn.out]; omega)]
          split
          · exact ⟨z0, z1⟩
          · exact BBy.out i)
        have BL2 := hide (show (BB.set ai xx).length = 15 by rw [List.length_set]; exact BLn.out)
        have DL2 := hide (DML.out (BB.set ai xx))
        clear TU DML BBy hxx z0 z1 z2 by'
        go_upto_region 15 with fail
        refine wp_region_G 15 (GrownW w2) 16 (by rfl) #[false, false, false, false, false, false, false, false, false, false, false, false, false, false, false, false] (by rfl) (by kernel_rfl) (fun hcl => ?_)
        have hHeld := (gw_start w2)
        refine wpAnyG_take (i := 0) (v := ?vta0) rfl (by kernel_rfl) hcl (fun _ _ _ h => h) (Or.inl ⟨by rfl, ?yta0⟩) hHeld (fun hcl => ?rta0)
        case yta0 => (intro w' hSw; (try dsimp only at hSw); go_simp; (try with_reducible rfl))
        (try simp only [Act.put, sL])
        refine wpAnyG_take (i := 1) (v := ?vta1) rfl (by kernel_rfl) hcl (fun _ _ _ h => h) (Or.inl ⟨by rfl, ?yta1⟩) hHeld (fun hcl => ?rta1)
        case yta1 => (intro w' hSw; (try dsimp only at hSw); go_simp; (try with_reducible rfl))
        (try simp only [Act.put, sL])
        refine wpAnyG_take (i := 2) (v := .int .i64 ta) rfl (by kernel_rfl) hcl (fun _ _ _ h => h) (Or.inl ⟨by rfl, ?yta2⟩) hHeld (fun hcl => ?rta2)
        case yta2 => (intro w' hSw; (try dsimp only at hSw); have cc := (T2.out.keep hSw).cell 3; simp at cc; go_simp; (try with_reducible rfl))
        (try simp only [Act.put, sL])
        refine wpAnyG_take (i := 3) (v := ?vta3) rfl (by kernel_rfl) hcl (fun _ _ _ h => h) (Or.inl ⟨by rfl, ?yta3⟩) hHeld (fun hcl => ?rta3)
        case yta3 => (intro w' hSw; (try dsimp only at hSw); go_simp; (try with_reducible rfl))
        (try simp only [Act.put, sL])
        refine wpAnyG_take (i := 4) (v := ?vta4) rfl (by kernel_rfl) hcl (fun _ _ _ h => h) (Or.inl ⟨by rfl, ?yta4⟩) hHeld (fun hcl => ?rta4)
        case yta4 => (intro w' hSw; (try dsimp only at hSw); go_simp; (try with_reducible rfl))
        (try simp only [Act.put, sL])
        refine wpAnyG_take (i := 8) (v := ?vta8) rfl (by kernel_rfl) hcl (fun _ _ _ h => h) (Or.inl ⟨by rfl, ?yta8⟩) hHeld (fun hcl => ?rta8)
        case yta8 => (intro w' hSw; (try dsimp only at hSw); go_simp; (try with_reducible rfl))
        (try simp only [Act.put, sL])
        refine wpAnyG_take (i := 9) (v := .int .i64 tm) rfl (by kernel_rfl) hcl (fun _ _ _ h => h) (Or.inl ⟨by rfl, ?yta9⟩) hHeld (fun hcl => ?rta9)
        case yta9 => (intro w' hSw; (try dsimp only at hSw); have cc := (T2.out.keep hSw).cell 4; simp at cc; go_simp; (try with_reducible rfl))
        (try simp only [Act.put, sL])
        refine wpAnyG_exec (i := 5) rfl (by kernel_rfl) hcl (fun K hK => ?_)
        (try simp only [Act.put, sL])
        go_simp
        refine (SPA.out _).mono ?_
        rintro x wa ⟨rfl, rfl⟩
        go_wp2_with fail
        have hNew := hHeld
        refine hK.out _ _ (fun _ => hNew) (fun hcl => ?_)
        clear hK
        replace hHeld := hNew
        clear hNew
        (try simp only [Act.put, sL])
        refine wpAnyG_take (i := 6) (v := ?vta6) rfl (by kernel_rfl) hcl (fun _ _ _ h => h) (Or.inl ⟨by rfl, ?yta6⟩) hHeld (fun hcl => ?rta6)
        case yta6 => (intro w' hSw; (try dsimp only at hSw); go_simp; (try with_reducible rfl))
        (try simp only [Act.put, sL])
        refine wpAnyG_take (i := 7) (v := .int .u8 (nth BB ai)) rfl (by kernel_rfl) hcl (fun _ _ _ h => h) (Or.inl ⟨by rfl, ?yta7⟩) hHeld (fun hcl => ?rta7)
        case yta7 => (intro w' hSw; (try dsimp only at hSw); have cc := (B2.out.keep hSw).cell BLn.out.symm ai (by rw [BLn.out]; exact a15); go_simp; (try with_reducible rfl))
        (try simp only [Act.put, sL])
        refine wpAnyG_exec (i := 10) rfl (by kernel_rfl) hcl (fun K hK => ?_)
        (try simp only [Act.put, sL])
        go_simp
        refine (SPM.out _).mono ?_
        rintro x wa ⟨rfl, rfl⟩
        go_wp2_with fail
        have hNew := hHeld
        refine hK.out _ _ (fun _ => hNew) (fun hcl => ?_)
        clear hK
        replace hHeld := hNew
        clear hNew
        (try simp only [Act.put, sL])
        refine wpAnyG_take (i := 11) (v := .int .i64 (1 + qm')) rfl (by kernel_rfl) hcl (fun _ _ _ h => h) (Or.inl ⟨by rfl, ?yta11⟩) hHeld (fun hcl => ?rta11)
        case yta11 => (intro w' hSw; (try dsimp only at hSw); go_simp; (try simp only [w1q]); (try with_reducible rfl))
        (try simp only [Act.put, sL])
        refine wpAnyG_take (i := 12) (v := .int .u8 (1 + qm')) rfl (by kernel_rfl) hcl (fun _ _ _ h => h) (Or.inl ⟨by rfl, ?yta12⟩) hHeld (fun hcl => ?rta12)
        case yta12 => (intro w' hSw; (try dsimp only at hSw); go_simp; (try simp only [hcv, hm256]); (try with_reducible rfl))
        (try simp only [Act.put, sL])
        refine wpAnyG_take (i := 13) (v := .int .u8 xx) rfl (by kernel_rfl) hcl (fun _ _ _ h => h) (Or.inl ⟨by rfl, ?yta13⟩) hHeld (fun hcl => ?rta13)
        case yta13 => (intro w' hSw; (try dsimp only at hSw); go_simp; (try simp only [XX.out]); (try with_reducible rfl))
        (try simp only [Act.put, sL])
        refine wpAnyG_take (i := 14) (v := ?vta14) rfl (by kernel_rfl) hcl (fun _ _ _ h => h) (Or.inl ⟨by rfl, ?yta14⟩) hHeld (fun hcl => ?rta14)
        case yta14 => (intro w' hSw; (try dsimp only at hSw); go_simp; (try with_reducible rfl))
        (try simp only [Act.put, sL])
        refine wpAnyG_exec (i := 15) rfl (by kernel_rfl) hcl (fun K hK => ?_)
        (try simp only [Act.put, sL])
        generalize w2.drew = wy at *
        have BD := hide (B2.out.keep hHeld)
        have cd := BD.out.cell BLn.out.symm ai (by rw [BLn.out]; exact a15)
        have fd := BD.out.free BLn.out.symm ai
        have OS := BD.out.set BLn.out.symm ai xx
        have B3 := hide OS.1
        have NGB := hide (show W0.heap.size ≤ gb from (BD.out.lt gb rfl).1)
        have M3 := hide ((M2.out.keep hHeld).keepBut OS.2 (by have := NGB.out; have := LW.out; omega))
        have S3' := hide ((S2.out.keep hHeld).keepBut OS.2 (by have := NGB.out; have := LW.out; omega))
        have R3 := hide ((R2.out.keep hHeld).but OS.2 (by have := NGB.out; have := LW.out; have := HB2.out; omega))
        have G3 := hide (grown_own (grown_none G2.out hHeld) OS.2 (by have := NGB.out; have := LW.out; have := HB.out; omega))
        have X4 := hide (grown_own (grown_none X3.out hHeld) OS.2 (by have := NGB.out; have := LW.out; have := HB2.out; omega))
        clear OS
        generalize nth BB ai = yy at *
        go_simp
        go_wp2_with fail
        refine hK.out _ _ (fun h => by cases h) (fun hcl => ?_)
        clear hK hHeld
        (try simp only [Act.put, sL])
        clear cd fd BD M2 S2 R2 G2 X3 B2
        generalize World.setCell _ ⟨gb, ai, none⟩ (.int .u8 xx) = W5' at *
        refine wpAnyG_of_any _ _ _ _ (by rfl) ?_
        refine wpAny_done (by kernel_rfl) ?_ _
        go_upto_region 16 with fail
        have D0 := hide (D.out _ (BB.set ai xx) _ G3.out B3.out.byts B3.out.shp BY2.out (by rw [BL2.out]; omega))
        rw [TT.out.2.2.2] at D0
        clear D TT BY2 BL2
        generalize decM MM (BB.set ai xx) = NZ at *
        generalize decS MM (BB.set ai xx) = uz at *
        generalize decL MM (BB.set ai xx) = KZ at *
        have CNZ := hide (memC_len DL2.out uz)
        go_wp2_with (first | refine wpList_load_v rfl 30 _ rfl (bs + 1) 0 102 rfl 30 (memC MM u0) M3.out _ Tryz.underlying30 rfl size102 (by rw [CM.out]; omega) _ AM.out ?_)
        refine D0.out.mono ?_
        rintro x W6 ⟨v6, rfl, _, g6⟩
        (try unfold memV)
        have FB := hide (fresh_mem W6 NZ uz DL2.out)
        have GB := hide (grown_none g6 FB.out.2.2)
        have M5 := hide (M3.out.keep GB.out)
        have S5 := hide (S3'.out.keep GB.out)
        have R5 := hide (R3.out.keep GB.out)
        have G5 := hide (grown_none G3.out GB.out)
        have X5 := hide (grown_none X4.out GB.out)
        clear GB g6 M3 S3' R3 G3 X4 B3 D0
        go_upto_region 17 with (first | refine wpList_store_v rfl 30 _ _ rfl W6.heap.size 0 30 (memC (zeros 101) false) (memC NZ uz) rfl rfl FB.out.1 (by rw [ZM.out, CNZ.out]; omega) (by rw [CNZ.out]; exact size102) (memC_one _ _) ?_)
        (try simp only [Act.put])
        clear FB
        generalize putV (W6.alloc (.cells (memC (zeros 101) false).toArray 30)) W6.heap.size 0 (memC NZ uz) = W7 at *
        generalize W6.heap.size = bz at *
        have M2 := M5
        have S2 := S5
        have R2 := R5
        have G2 := G5
        have X3 := X5
        clear M5 S5 R5 G5 X5
        have D0 := hide (ER.out _ G2.out)
        rw [EE0.out] at D0
        have DL := EML
        clear ER EE0 EML
        generalize ersM MM = NM at *
        generalize ersS MM u0 = u1 at *
        have KLn := EL80
        generalize ersL MM = KL at *
        have CN := hide (memC_len DL.out u1)
        have AN := hide (BlkM.all u1 DL.out)
        go_upto_region 19 with fail
        go_wp2_with (first | refine wpList_load_v rfl 30 _ rfl (bs + 1) 0 102 rfl 30 (memC MM u0) M2.out _ Tryz.underlying30 rfl size102 (by rw [CM.out]; omega) _ AM.out ?_)
        refine D0.out.mono ?_
        rintro x W6 ⟨v6, rfl, o6, g6⟩
        obtain ⟨gk, ck, rfl, _, _, _⟩ := o6.form (by rw [KLn.out]; omega)
        rw [KLn.out]
        clear o6
        (try unfold memV)
        have FB := hide (fresh_mem W6 NM u1 DL.out)
        have GB := hide (grown_none g6 FB.out.2.2)
        have M9 := hide (M2.out.keep GB.out)
        have S9 := hide (S2.out.keep GB.out)
        have R9 := hide (R2.out.keep GB.out)
        have G9 := hide (grown_none G2.out GB.out)
        have X9 := hide (grown_none X3.out GB.out)
        have NBN := hide (show bs + 1 < W6.heap.size from Nat.lt_of_lt_of_le (BlkM.lt M2.out) (World.grownBy.size g6))
        clear GB g6 M2 S2 R2 G2 X3 D0
        go_upto_region 20 with (first | refine wpList_store_v rfl 30 _ _ rfl W6.heap.size 0 30 (memC (zeros 101) false) (memC NM u1) rfl rfl FB.out.1 (by rw [ZM.out, CN.out]; omega) (by rw [CN.out]; exact size102) (memC_one _ _) ?_)
        (try simp only [Act.put])
        have N7 := hide FB.out.2.1
        clear FB
        generalize putV (W6.alloc (.cells (memC (zeros 101) false).toArray 30)) W6.heap.size 0 (memC NM u1) = W9 at *
        generalize W6.heap.size = bn at *
        have PM := M9.out.putAll (m := NM) (t := u1) MML.out DL.out
        have RE := hide (show TwE w bs (bs + 1) X NM t1 u1 (putV W9 (bs + 1) 0 (memC NM u1)) from ⟨S9.out.keepBut PM.2 (by omega), PM.1, grown_own G9.out PM.2 (Nat.le_succ_of_le HB.out)⟩)
        have RR9 := hide (R9.out.but PM.2 (by have := HB2.out; omega))
        have XX9 := hide (grown_own X9.out PM.2 (by have := HB2.out; omega))
        clear PM S9 G9 R9 X9
        go_upto_region 23 with (first | refine wpList_load_v rfl 30 _ rfl bn 0 102 rfl 30 (memC NM u1) N7.out _ Tryz.underlying30 rfl size102 (by rw [CN.out]; omega) _ AN.out ?_ | refine wpList_store_v rfl 30 _ _ rfl (bs + 1) 0 30 (memC MM u0) (memC NM u1) rfl rfl M9.out (by rw [CM.out, CN.out]; omega) (by rw [CN.out]; exact size102) (memC_one _ _) ?_)
        (try simp only [Act.put])
        clear M9 N7
        generalize putV W9 (bs + 1) 0 (memC NM u1) = W8 at *
        go_wp2_with fail
        have RL : ∃ j : Nat, Value.int .i64 ((k : Int) + 1) = .int .i64 j ∧ j ≤ N ∧ Hid (TwE w bs (bs + 1) (syE L j) (feM L j) (syS L j) (feT L j) W8) ∧ Hid (EnR wr0 W8) ∧ Hid (wr0.grownBy W8 none) := ⟨k + 1, by go_num, by omega, by rw [X0.out, X1.out, YY0.out, YY1.out]; exact RE.out, RR9.out, XX9.out⟩
        go_roundw
        case rel => exact RL
        case measure => simp [intOf]; omega
    · obtain rfl : k = N := by omega
      have GD := gw_start wr
      have CE := hide (encC_len LEN.out.1 (syS L k))
      have AE := hide (BlkE.all (syS L k) LEN.out.1)
      have CM := hide (memC_len LEN.out.2 (feT L k))
      have AM := hide (BlkM.all (feT L k) LEN.out.2)
      have RS := hide (hR.out.keep GD)
      have XS := hide (grown_none hX.out GD)
      have LT := hide (show bs + 1 < wr.heap.size from BlkM.lt hI.out.ms)
      have IS := hide hI.out
      clear hI hR hX HT PC PD PE
      generalize syE L k = E at *
      generalize syS L k = t0 at *
      generalize feM L k = M at *
      generalize feT L k = u0 at *
      go_upto_region 24 with fail
      refine wp_region_held_drew (S := fun u => BlkE u bs E t0 ∧ BlkM u (bs + 1) M u0) (by kernel_rfl) ⟨IS.out.es.keep GD, IS.out.ms.keep GD⟩ (fun hHeld => ?_)
      refine wpAnyH_take (i := 0) (v := .agg (encC E t0).toArray) rfl (by kernel_rfl) (by kernel_rfl) (by kernel_rfl) (fun _ _ _ h => h) (Or.inl ⟨by rfl, ?ytb0⟩) hHeld ?rtb0
      case ytb0 => (intro w' hSw; exact yields_load_v rfl rfl hSw.1 _ Tryz.underlying32 rfl size226 (by rw [CE.out]; omega) _ AE.out)
      (try simp only [Act.put, sL])
      refine wpAnyH_take (i := 1) (v := .agg (memC M u0).toArray) rfl (by kernel_rfl) (by kernel_rfl) (by kernel_rfl) (fun _ _ _ h => h) (Or.inl ⟨by rfl, ?ytb1⟩) hHeld ?rtb1
      case ytb1 => (intro w' hSw; exact yields_load_v rfl rfl hSw.2 _ Tryz.underlying30 rfl size102 (by rw [CM.out]; omega) _ AM.out)
      (try simp only [Act.put, sL])
      refine wpAnyH_ready (rs := [2]) (by kernel_rfl) (by simp) (AllReadyH.cons rfl (fun K hK => ?_) AllReadyH.nil)
      (try simp only [Act.put, sL])
      have PU := RS.out.re.putAll (m := E) (t := t0) (zeros_len 225) LEN.out.1
      have P4 := hide PU.1
      have Q4 := hide (RS.out.rm.keepBut PU.2 (by omega))
      have X4 := hide (grown_own XS.out PU.2 (Nat.le_refl _))
      have HS4 := And.intro (hHeld.1.keepBut PU.2 (by have := HB2.out; omega)) (hHeld.2.keepBut PU.2 (by have := HB2.out; omega))
      clear PU
      refine step_store_v rfl 32 _ _ rfl wr0.heap.size 0 32 (encC (zeros 225) false) (encC E t0) rfl rfl RS.out.re (by rw [ZL.out, CE.out]; omega) (by rw [CE.out]; exact size226) (encC_one _ _) ?_
      refine hK.out _ _ HS4 (fun hHeld => ?_)
      clear hK
      (try simp only [Act.put, sL])
      clear HS4 RS XS
      generalize putV wr.drew wr0.heap.size 0 (encC E t0) = wa at *
      refine wpAnyH_ready (rs := [3]) (by kernel_rfl) (by simp) (AllReadyH.cons rfl (fun K hK => ?_) AllReadyH.nil)
      (try simp only [Act.put, sL])
      have PU := Q4.out.putAll (m := M) (t := u0) (zeros_len 101) LEN.out.2
      have Q5 := hide PU.1
      have P5 := hide (P4.out.keepBut PU.2 (by omega))
      have X5 := hide (grown_own X4.out PU.2 (by omega))
      have HS5 := And.intro (hHeld.1.keepBut PU.2 (by have := HB2.out; omega)) (hHeld.2.keepBut PU.2 (by have := HB2.out; omega))
      clear PU
      refine step_store_v rfl 30 _ _ rfl (wr0.heap.size + 1) 0 30 (memC (zeros 101) false) (memC M u0) rfl rfl Q4.out (by rw [ZM.out, CM.out]; omega) (by rw [CM.out]; exact size102) (memC_one _ _) ?_
      refine hK.out _ _ HS5 (fun hHeld => ?_)
      clear hK
      (try simp only [Act.put, sL])
      clear HS5 Q4 P4 X4
      generalize putV wa (wr0.heap.size + 1) 0 (memC M u0) = wb at *
      refine wpAnyH_take (i := 4) (v := ?vtb4) rfl (by kernel_rfl) (by kernel_rfl) (by kernel_rfl) (fun _ _ _ h => h) (Or.inl ⟨by rfl, ?ytb4⟩) hHeld ?rtb4
      case ytb4 => (intro w' hSw; go_simp; (try with_reducible rfl))
      (try simp only [Act.put, sL])
      refine wpAnyH_done (by kernel_rfl) ?_ _
      clear hHeld
      have FF := hide (F.out _ X5.out)
      clear F
      have hlv := loadVar_v P5.out _ Tryz.underlying32 rfl (by rw [CE.out]; exact size226)
      have hlw := loadVar_v Q5.out _ Tryz.underlying30 rfl (by rw [CM.out]; exact size102)
      go_wp2_with fail
      refine bodyPost_ret (v := .tuple #[.agg (encC E t0).toArray, .agg (memC M u0).toArray, .bool true]) ?_ rfl FF.out
      simp [results, Tryz.results17, asAddr, Act.put, hlv, hlw]
theorem cend_of (W : World) (pc : CEn 12 W) (pd : CDe 14 W) (pe : CErs 18 W) (pb : CBg 9 W) (pf : CFr 10 W) : CEnd 17 W := fun v n L h wr g => topEnds_any W pc pd pe pb pf v n L h wr g
end Go.Proofs.YtihphpcgjeokmaaGreatDoor

/- LTpE -/
namespace Go.Proofs.YtihphpcgjeokmaaGreatDoor
open Go.RowKit
set_option linter.unusedVariables false
theorem cfr_ofG (W : World) : CFr 10 W := fun wr g => conFresh_any wr
theorem cersT_of (W : World) : CErs 18 W := fun l s hl h64 wr g => codErase_any l s hl wr
theorem cgdT_of (W : World) : CGd 19 W := fun l s hl h64 wr g => conGood_any l s hl wr
theorem pun_ofG {W : World} (t : TabA W 0 widq 8) : PUn 20 W := fun v b wr g hb hby hsh hl => pkUnpack_any v b wr hb hby (by omega) (TabA_keep t g)
theorem cendT_of {W : World} (t0 : TabA W 2 gro 15) (t1 : TabA W 0 widq 8) (t2 : TabA W 1 gains 8) : CEnd 17 W := cend_of W (cen_of t0 t1 t2) (cde_of t0 t1 t2) (cersT_of W) (cbg_of W) (cfr_ofG W)
end Go.Proofs.YtihphpcgjeokmaaGreatDoor

/- TopSil -/
namespace Go.Proofs.YtihphpcgjeokmaaGreatDoor
open Go.RowKit
set_option linter.unusedVariables false
set_option linter.unusedSimpArgs false
structure RestE (e : List Int) : Prop where
  good : GoodE e
  rest : ∀ i, i < 4 → nth e i = 0
theorem restE_beg : RestE begL := ⟨goodE_beg, fun i hi => by
  have : ∀ i : Fin 4, nth begL i.val = 0 := by decide +kernel
  exact this ⟨i, hi⟩⟩
theorem zeros80_right : rightB (zeros 80) = true := by decide +kernel
theorem rest_c {e : List Int} (h : RestE e) : enC e (zeros 80) = zeros 80 := by
  unfold enC
  rw [h.rest 0 (by omega), h.rest 1 (by omega), h.rest 2 (by omega), h.rest 3 (by omega)]
  exact hi_zero
theorem rest_hp {e : List Int} (h : RestE e) : enHp e (zeros 80) = [0, 0, 0, 0] := by
  unfold enHp
  rw [h.rest 0 (by omega), h.rest 1 (by omega), h.rest 2 (by omega), h.rest 3 (by omega)]
  decide +kernel
theorem rest_next {e : List Int} (h : RestE e) : RestE (encM e (zeros 80) false) := by
  have k := goodE_ok h.good (zeros_len 80) zeros80_right
  refine ⟨goodE_next h.good (zeros_len 80) zeros80_right false, fun i hi => ?_⟩
  rw [(enc_yes false k).1, rest_hp h, nth_app_l _ _ _ hi]
  obtain rfl | rfl | rfl | rfl : i = 0 ∨ i = 1 ∨ i = 2 ∨ i = 3 := by omega
  all_goals rfl
theorem rest_kind {e : List Int} (h : RestE e) : enKd e (zeros 80) false = 2 := by
  have d : dotS (zeros 80) (zeros 80) 80 < 1280 := by decide +kernel
  unfold enKd
  rw [if_neg (by decide), rest_c h, if_pos d]
theorem rest_sil {e : List Int} (h : RestE e) : encT e (zeros 80) false = true := by
  rw [(enc_yes false (goodE_ok h.good (zeros_len 80) zeros80_right)).2.1]
  unfold plyS enP
  rw [rest_kind h]
  generalize enQ e (zeros 80) ++ enS e (zeros 80) false = tl
  exact decide_eq_true rfl
theorem rest_un {e : List Int} (h : RestE e) : unE (encB e (zeros 80) false) = 0 ∧ nth (unpL (encB e (zeros 80) false)) 0 = 2 := by
  rw [(enc_yes false (goodE_ok h.good (zeros_len 80) zeros80_right)).2.2.1]
  have u := un_pk _ (enP_len (l := zeros 80) false h.good.mem) (enP_good (l := zeros 80) false h.good.mem)
  refine ⟨u.1, ?_⟩
  rw [u.2]
  unfold enP
  rw [rest_kind h]
  rfl
def silE : Nat → List Int
  | 0 => begL
  | k + 1 => encM (silE k) (zeros 80) false
def silT : Nat → Bool
  | 0 => false
  | k + 1 => true
theorem silE_rest : ∀ k, RestE (silE k)
  | 0 => restE_beg
  | k + 1 => rest_next (silE_rest k)
theorem un_kind {e l : List Int} (g : GoodE e) (hl : l.length = 80) (hr : rightB l = true) (r : Bool) : unE (encB e l r) = 0 ∧ unpL (encB e l r) = enP e l r := by
  rw [(enc_yes r (goodE_ok g hl hr)).2.2.1]
  exact un_pk _ (enP_len r g.mem) (enP_good r g.mem)
theorem enP_0 (e l : List Int) (r : Bool) : nth (enP e l r) 0 = enKd e l r := by
  unfold enP
  generalize enQ e l ++ enS e l r = tl
  generalize enKd e l r = x
  rfl
theorem enP_kind (e l : List Int) : nth (enP e l false) 0 = 0 ∨ (nth (enP e l false) 0 = 2 ∧ prt (enP e l false) 9 16 = zeros 16) := by
  rw [enP_0]
  by_cases h : enKd e l false = 2
  · refine .inr ⟨h, ?_⟩
    have q : (enQ e l).length = 8 := quL_len _
    have s : enS e l false = zeros 16 := by unfold enS; rw [if_pos h]
    unfold enP
    rw [s]
    generalize enKd e l false = x at *
    generalize enQ e l = y at *
    have hz : (zeros 16).length = 16 := zeros_len 16
    generalize zeros 16 = Z at *
    unfold prt
    refine (tab_ext hz (fun i hi => ?_)).symm
    have : nth (x :: (y ++ Z)) (9 + i) = nth (y ++ Z) (8 + i) := by rw [show 9 + i = (8 + i) + 1 by omega]; rfl
    rw [this, nth_app_r _ _ _ (by omega), q, Nat.add_sub_cancel_left]
  · refine .inl ?_
    unfold enKd at h ⊢
    rw [if_neg (by decide)] at h ⊢
    by_cases c : dotS (enC e l) (enC e l) 80 < 1280
    · rw [if_pos c] at h; exact absurd rfl h
    · rw [if_neg c]
end Go.Proofs.YtihphpcgjeokmaaGreatDoor

/- TopG -/
namespace Go.Proofs.YtihphpcgjeokmaaGreatDoor
open Go.RowKit
set_option linter.unusedVariables false
set_option linter.unusedSimpArgs false
set_option maxHeartbeats 4000000
theorem nz_zeroT (s : Int) : nzL s 0 40 = zeros 40 := by
  have h := tab_ext (l := nzL s 0 40) (p := fun _ => (0 : Int)) (nzL_len _ _ _) (fun i hi => by
    rw [nzL_nth _ _ _ _ hi]
    unfold nzN noX noZ
    simp)
  have h2 := tab_ext (l := zeros 40) (p := fun _ => (0 : Int)) (zeros_len _) (fun i _ => zeros_nth _ _)
  rw [h, ← h2]
theorem mx_noughtT (v : List Int) : mxA v 0 (zeros 40) = zeros 40 := by
  have h := tab_ext (l := mxA v 0 (zeros 40)) (p := fun _ => (0 : Int)) (mxA_len _ _ _) (fun i hi => by
    rw [mxA_nth _ _ _ _ hi]
    unfold mxN
    rw [zeros_nth, Int.mul_zero]
    decide)
  have h2 := tab_ext (l := zeros 40) (p := fun _ => (0 : Int)) (zeros_len _) (fun i _ => zeros_nth _ _)
  rw [h, ← h2]
theorem er_sixT (l : List Int) (half : Int) (h : erN l half = 6) : erX l half = zeros 40 := by
  unfold erX erZ
  rw [h, fdV6, fdV6, show (0 : Int) / 4 = 0 from rfl, nz_zeroT, mx_noughtT]
theorem ints_getT (u : List Int) (i : Nat) (h : i < u.length) : (intsV u)[i]? = some (.int .i64 (nth u i)) := by
  have := mixC_get u [] i h
  unfold mixC at this
  rwa [List.append_nil] at this
theorem ints_partT (u : List Int) (o n : Nat) (h : o + n ≤ u.length) : ((intsV u).drop o).take n = intsV (prt u o n) := by
  have := mixC_part u [] o n h
  unfold mixC at this
  rwa [List.append_nil] at this
theorem zero_pktT (w : World) : Sem.run Tryz.prog (zeroValue 59) w = .ok (.agg (arrI (zeros 25))) w := by
  have hz := zPkt
  cases hq : Tryz.prog.info? 59 with
  | none => simp [hq] at hz
  | some i =>
    have hi : i.zero = some (.agg (arrI (zeros 25))) := by simpa [hq] using hz
    simp [zeroValue, typeInfo, hq, hi]
set_option maxRecDepth 100000 in
theorem law_topGood (w : World) (pn : CEnd 17 w) (pc : CEn 12 w) (pd : CDe 14 w) (pe : CErs 18 w) (pb : CBg 9 w) (pf : CFr 10 w) (pg : CGd 19 w) (v : Value) (n : Nat) (L : Nat → Tk) (h : Talks w v n L) :
    Calls Tryz.prog 5 #[v] w fun e w' => e = .returned (.bool true) ∧ Below w.heap.size w w' := by
  have EN := hide (pn v n L h)
  have AL := hide (fun wr g => alive_any w pc pd pb pf wr g)
  have GE := hide (syE_good L (min n 12))
  have GM := hide (feM_good L (min n 12))
  generalize syE L (min n 12) = E at *
  generalize syS L (min n 12) = t0 at *
  generalize feM L (min n 12) = M at *
  generalize feT L (min n 12) = u0 at *
  have ZL := hide (encC_len (zeros_len 225) false)
  have ZM := hide (memC_len (zeros_len 101) false)
  have hz := zero_enc
  have hy := zero_mem
  have CE := hide (encC_len GE.out.len t0)
  have AE := hide (BlkE.all t0 GE.out.len)
  have CM := hide (memC_len GM.out.1 u0)
  have AM := hide (BlkM.all u0 GM.out.1)
  have ER := hide (fun wr g => pe M u0 GM.out.1 (good_64 GM.out.1 GM.out.2) wr g)
  have EE0 := hide (ers_yes (s := true) GM.out.2).2.2.2
  unfold MemE at ER
  rw [EE0.out] at ER
  have NL := hide (ersM_len M GM.out.1)
  have NG := hide (ersM_good GM.out.1 GM.out.2)
  have KN := hide (ersL_right GM.out.1 GM.out.2)
  have D1 := hide (fun wr g => pg (enMm E) t0 (prt_len _ _ _) (good_64 (prt_len _ _ _) GE.out.mem) wr g)
  rw [GE.out.mem] at D1
  have D2 := hide (fun wr g => pg M u0 GM.out.1 (good_64 GM.out.1 GM.out.2) wr g)
  rw [GM.out.2] at D2
  have D3 := hide (fun wr g => pg (ersM M) (ersS M u0) NL.out (good_64 NL.out NG.out) wr g)
  rw [NG.out] at D3
  have EP := hide (encC_mem t0 GE.out.len)
  rw [show prt E 124 101 = enMm E from rfl] at EP
  have F := hide (show ∀ w', w.grownBy w' none → (fun (e : Ending) (w' : World) => e = .returned (.bool true) ∧ Below w.heap.size w w') (.returned (.bool true)) w' from fun w' q => ⟨rfl, below_of_grown q⟩)
  obtain ⟨T, hT'⟩ : ∃ T : Ending → World → Prop, (fun (e : Ending) (w' : World) => e = .returned (.bool true) ∧ Below w.heap.size w w') = T := ⟨_, rfl⟩
  rw [hT'] at F ⊢
  clear hT'
  clear pn pc pd pe pb pf pg h
  generalize ersM M = NM at *
  generalize ersS M u0 = u1 at *
  generalize ersL M = KL at *
  generalize enMm E = ME at *
  have CN := hide (memC_len NL.out u1)
  have AN := hide (BlkM.all u1 NL.out)
  unfold AnsC memV at D1 D2 D3
  unfold memV at ER
  unfold encV at hz
  unfold memV at hy
  unfold EndE encV memV at EN
  unfold AnsC at AL
  go_enter Tryz.func5, Tryz.ntmps5
  go_wp2_with fail
  refine (EN.out w (grown_refl w none)).mono ?_
  rintro x W1 ⟨rfl, g1⟩
  have G1 := hide g1
  clear EN g1
  have E0 := hide (show BlkE ((W1.alloc (.cells (encC (zeros 225) false).toArray 32)).alloc (.cells (memC (zeros 101) false).toArray 30)) W1.heap.size (zeros 225) false from (BlkE.new W1 (zeros 225) false).keep (grown_alloc _ _ none))
  have M0 := hide (show BlkM ((W1.alloc (.cells (encC (zeros 225) false).toArray 32)).alloc (.cells (memC (zeros 101) false).toArray 30)) (W1.heap.size + 1) (zeros 101) false from by have := BlkM.new (W1.alloc (.cells (encC (zeros 225) false).toArray 32)) (zeros 101) false; simpa using this)
  have GC := hide (show W1.grownBy ((W1.alloc (.cells (encC (zeros 225) false).toArray 32)).alloc (.cells (memC (zeros 101) false).toArray 30)) none from grown_none (grown_alloc W1 _ none) (grown_alloc _ _ none))
  have P1 := E0.out.putAll (m := E) (t := t0) (zeros_len 225) GE.out.len
  have M1 := hide (M0.out.keepBut P1.2 (by omega))
  have P2 := M1.out.putAll (m := M) (t := u0) (zeros_len 101) GM.out.1
  have S3 := hide (P1.1.keepBut P2.2 (by omega))
  have M3 := hide P2.1
  have HB := hide (World.grownBy.size G1.out)
  have G3 := hide (grown_own (grown_own (grown_none G1.out GC.out) P1.2 (World.grownBy.size G1.out)) P2.2 (by have := World.grownBy.size G1.out; omega))
  clear M0 GC P1 P2 G1
  go_upto_region 2 with (first | refine wpList_store_v rfl 32 _ _ rfl W1.heap.size 0 32 (encC (zeros 225) false) (encC E t0) rfl rfl E0.out (by rw [ZL.out, CE.out]; omega) (by rw [CE.out]; exact size226) (encC_one _ _) ?_ | refine wpList_store_v rfl 30 _ _ rfl (W1.heap.size + 1) 0 30 (memC (zeros 101) false) (memC M u0) rfl rfl M1.out (by rw [ZM.out, CM.out]; omega) (by rw [CM.out]; exact size102) (memC_one _ _) ?_)
  (try simp only [Act.put])
  clear E0 M1
  generalize putV (putV ((W1.alloc (.cells (encC (zeros 225) false).toArray 32)).alloc (.cells (memC (zeros 101) false).toArray 30)) W1.heap.size 0 (encC E t0)) (W1.heap.size + 1) 0 (memC M u0) = W3 at *
  generalize W1.heap.size = bs at *
  go_wp2_with (first | refine wpList_load_v rfl 30 _ rfl (bs + 1) 0 102 rfl 30 (memC M u0) M3.out _ Tryz.underlying30 rfl size102 (by rw [CM.out]; omega) _ AM.out ?_)
  refine (ER.out _ G3.out).mono ?_
  rintro x W4 ⟨v4, rfl, o4, g4⟩
  have FB := hide (fresh_mem W4 NM u1 NL.out)
  have GB := hide (grown_none g4 FB.out.2.2)
  have M5 := hide (M3.out.keep GB.out)
  have S5 := hide (S3.out.keep GB.out)
  have G5 := hide (grown_none G3.out GB.out)
  have O5 := hide (o4.keep FB.out.2.2)
  obtain ⟨gk, ck, rfl, _, _, _⟩ := o4.form (by rw [KN.out.1]; omega)
  rw [KN.out.1] at O5 ⊢
  clear GB g4 o4 ER M3 S3 G3
  go_upto_region 3 with (first | refine wpList_store_v rfl 30 _ _ rfl W4.heap.size 0 30 (memC (zeros 101) false) (memC NM u1) rfl rfl FB.out.1 (by rw [ZM.out, CN.out]; omega) (by rw [CN.out]; exact size102) (memC_one _ _) ?_)
  (try simp only [Act.put])
  have N5 := hide FB.out.2.1
  clear FB
  generalize putV (W4.alloc (.cells (memC (zeros 101) false).toArray 30)) W4.heap.size 0 (memC NM u1) = W5 at *
  generalize W4.heap.size = bn at *
  have KC := hide (fun j (hj : j < 80) => O5.out.cell KN.out.1.symm j (by rw [KN.out.1]; exact hj))
  have KB := hide (fun j (hj : j < 80) => (rightB_iff KL).1 KN.out.2 j (by rw [KN.out.1]; exact hj))
  clear O5
  go_wp2_with fail
  go_loopw [25] (fun i wr => ∃ k : Nat, i = .int .i64 (k : Int) ∧ k ≤ 80 ∧ wr = W5) (fun i _ => 80 - (intOf i).toNat)
  case atStart => exact ⟨0, rfl, Nat.zero_le _, rfl⟩
  case round =>
    obtain ⟨k, rfl, hk, rfl⟩ := hrel
    by_cases hkl : k < 80
    · have i1 : (k : Int) < 80 := by omega
      have ck' := KC.out k hkl
      have kb := KB.out k hkl
      have b1 : ¬ nth KL k < -32768 := by omega
      have b2 : ¬ 32767 < nth KL k := by omega
      clear KC KB F AL D1 D2 D3
      generalize nth KL k = z at *
      go_wp2_with fail
      go_roundw
      case rel => exact ⟨k + 1, by go_num, by omega, by first | trivial | rfl⟩
      case measure => simp [intOf]; omega
    · have e80 : ¬ (k : Int) < 80 := by omega
      clear KC KB
      go_upto_region 9 with fail
      go_wp2_with fail
      refine (AL.out _ G5.out).mono ?_
      rintro x W6 ⟨rfl, g6⟩
      have M6 := hide (M5.out.keep g6)
      have S6 := hide (S5.out.keep g6)
      have N6 := hide (N5.out.keep g6)
      have G6 := hide (grown_none G5.out g6)
      clear AL g6 M5 S5 N5 G5
      go_wp2_with (first | refine wpList_load_vG (by first | rfl | (simp [Region.wanted, yielded]; done) | (simp [Region.wanted, yielded]; omega)) 30 _ rfl bs 124 102 rfl 32 (encC E t0) S6.out _ Tryz.underlying30 rfl size102 (by rw [CE.out]; omega) _ EP.out ?_)
      refine (D1.out _ G6.out).mono ?_
      rintro x W7 ⟨rfl, g7⟩
      have M7 := hide (M6.out.keep g7)
      have N7 := hide (N6.out.keep g7)
      have G7 := hide (grown_none G6.out g7)
      clear D1 g7 M6 S6 N6 G6
      go_wp2_with (first | refine wpList_load_vG (by first | rfl | (simp [Region.wanted, yielded]; done) | (simp [Region.wanted, yielded]; omega)) 30 _ rfl (bs + 1) 0 102 rfl 30 (memC M u0) M7.out _ Tryz.underlying30 rfl size102 (by rw [CM.out]; omega) _ AM.out ?_)
      refine (D2.out _ G7.out).mono ?_
      rintro x W8 ⟨rfl, g8⟩
      have N8 := hide (N7.out.keep g8)
      have G8 := hide (grown_none G7.out g8)
      clear D2 g8 M7 N7 G7
      go_wp2_with (first | refine wpList_load_vG (by first | rfl | (simp [Region.wanted, yielded]; done) | (simp [Region.wanted, yielded]; omega)) 30 _ rfl bn 0 102 rfl 30 (memC NM u1) N8.out _ Tryz.underlying30 rfl size102 (by rw [CN.out]; omega) _ AN.out ?_)
      refine (D3.out _ G8.out).mono ?_
      rintro x W9 ⟨rfl, g9⟩
      have FF := hide (F.out _ (grown_none G8.out g9))
      clear D3 g9 N8 G8 F
      go_wp2_with fail
      exact FF.out
theorem prt_ovrT (l M : List Int) (o p n : Nat) (hl : p + n ≤ l.length) (h : p + n ≤ o ∨ o + M.length ≤ p) : prt (ovr l o M) p n = prt l p n := by
  refine tab_ext (prt_len _ _ _) (fun i hi => ?_)
  rw [prt_nth _ _ _ _ hi, ovr_nth _ _ _ _ (by omega), if_neg (by omega)]
theorem erM_99 {l : List Int} (hl : l.length = 101) {half : Int} (k : erO l half) : nth (erM l half) 99 = erN l half := by
  rw [(er_yes (s := true) k).1, memT_nth l hl _ _ _ (kpA_len _ _) 99 (by omega), if_neg (by omega), if_neg (by omega), if_pos rfl]
theorem souM_99 (A m x : List Int) (hm : m.length = 101) : nth (souM A m x) 99 = nth m 99 := by rw [souM_nth _ _ _ _ (by omega), if_neg (by omega)]
theorem souM_exc (A m x : List Int) (hm : m.length = 101) : prt (souM A m x) 16 80 = prt m 16 80 := by
  unfold souM
  exact prt_ovrT _ _ _ _ _ (by omega) (.inr (by rw [mkP_len]; omega))
theorem erM_exc {l : List Int} (hl : l.length = 101) {half : Int} (k : erO l half) : prt (erM l half) 16 80 = kpA (prt l 16 80) (erX l half) := by
  rw [(er_yes (s := true) k).1]
  refine (tab_ext (kpA_len _ _) (fun i hi => ?_)).symm
  rw [memT_nth l hl _ _ _ (kpA_len _ _) (16 + i) (by omega), if_pos (by omega), Nat.add_sub_cancel_left]
theorem ersM_99 {l : List Int} (hl : l.length = 101) (hg : goodM l = true) : nth (ersM l) 99 = if nth l 99 < 6 then nth l 99 + 1 else nth l 99 := by
  have A := eaA_wide hg
  have g1 := eaM_good (eaA l) l hl A hg 1 (by omega)
  have l1 := eaM_len (eaA l) l hl 1
  have o0 : erO l 0 := ⟨hg, by omega, by omega⟩
  have o1 : erO (eaM (eaA l) l 1) 1 := ⟨g1, by omega, by omega⟩
  rw [(ers_yes (s := true) hg).1]
  show nth (souM (eaA l) (erM (eaM (eaA l) l 1) ((1 : Nat) : Int)) _) 99 = _
  rw [souM_99 _ _ _ (erM_lenE _ l1 _), show (((1 : Nat) : Int)) = 1 from rfl, erM_99 l1 o1]
  unfold erN
  rw [if_neg (by omega)]
  show nth (souM (eaA l) (erM l ((0 : Nat) : Int)) _) 99 = _
  rw [souM_99 _ _ _ (erM_lenE _ hl _), show (((0 : Nat) : Int)) = 0 from rfl, erM_99 hl o0]
  unfold erN
  by_cases h : nth l 99 < 6
  · rw [if_pos ⟨rfl, h⟩, if_pos h]
  · rw [if_neg (fun q => h q.2), if_neg h]
theorem ersM_exc {l : List Int} (hl : l.length = 101) (hg : goodM l = true) (h6 : nth l 99 = 6) : prt (ersM l) 16 80 = zeros 80 := by
  have A := eaA_wide hg
  have g1 := eaM_good (eaA l) l hl A hg 1 (by omega)
  have l1 := eaM_len (eaA l) l hl 1
  have o0 : erO l 0 := ⟨hg, by omega, by omega⟩
  have o1 : erO (eaM (eaA l) l 1) 1 := ⟨g1, by omega, by omega⟩
  have n0 : erN l 0 = 6 := by unfold erN; rw [if_neg (by omega)]; exact h6
  have m1 : eaM (eaA l) l 1 = souM (eaA l) (erM l 0) (erL l 0) := rfl
  have x1 : nth (eaM (eaA l) l 1) 99 = 6 := by rw [m1, souM_99 _ _ _ (erM_lenE _ hl _), erM_99 hl o0]; exact n0
  have n1 : erN (eaM (eaA l) l 1) 1 = 6 := by unfold erN; rw [if_neg (by omega)]; exact x1
  rw [(ers_yes (s := true) hg).1]
  show prt (souM (eaA l) (erM (eaM (eaA l) l 1) ((1 : Nat) : Int)) _) 16 80 = _
  rw [souM_exc _ _ _ (erM_lenE _ l1 _), show (((1 : Nat) : Int)) = 1 from rfl, erM_exc l1 o1, er_sixT _ _ n1]
  have e0 : prt (eaM (eaA l) l 1) 16 80 = kpA (prt l 16 80) (zeros 40) := by rw [m1, souM_exc _ _ _ (erM_lenE _ hl _), erM_exc hl o0, er_sixT _ _ n0]
  rw [e0]
  have z := tab_ext (l := zeros 80) (p := fun _ => (0 : Int)) (zeros_len _) (fun i _ => zeros_nth _ _)
  rw [z]
  refine tab_ext (kpA_len _ _) (fun i hi => ?_)
  rw [kpA_nth _ _ _ hi]
  unfold kpN
  by_cases h : i < 40
  · rw [if_pos h, kpA_nth _ _ _ (by omega)]
    unfold kpN
    rw [if_neg (by omega), zeros_nth]
    decide
  · rw [if_neg h, zeros_nth]; decide
def fadM (l : List Int) : Nat → List Int
  | 0 => l
  | k + 1 => ersM (fadM l k)
theorem fadM_good {l : List Int} (hl : l.length = 101) (hg : goodM l = true) : ∀ k, (fadM l k).length = 101 ∧ goodM (fadM l k) = true
  | 0 => ⟨hl, hg⟩
  | k + 1 => ⟨ersM_len _ (fadM_good hl hg k).1, ersM_good (fadM_good hl hg k).1 (fadM_good hl hg k).2⟩
theorem fadM_99 {l : List Int} (hl : l.length = 101) (hg : goodM l = true) : ∀ k : Nat, k ≤ 6 → (k : Int) ≤ nth (fadM l k) 99 ∧ nth (fadM l k) 99 ≤ 6
  | 0, _ => (goodM_iff l).1 hg 99 (by omega)
  | k + 1, h => by
    have := fadM_99 hl hg k (by omega)
    have e := ersM_99 (fadM_good hl hg k).1 (fadM_good hl hg k).2
    show ((k + 1 : Nat) : Int) ≤ nth (ersM (fadM l k)) 99 ∧ nth (ersM (fadM l k)) 99 ≤ 6
    rw [e]
    split <;> omega
theorem fadM_six {l : List Int} (hl : l.length = 101) (hg : goodM l = true) : prt (ersM (fadM l 6)) 16 80 = zeros 80 :=
  ersM_exc (fadM_good hl hg 6).1 (fadM_good hl hg 6).2 (by have := fadM_99 hl hg 6 (by omega); omega)
theorem z80t : (Tryz.prog.info? 28).bind (·.zero) = some (.agg (arrI (zeros 80))) := by kernel_rfl
theorem guard_exc (x y : Operand) (l m : List Int) (w : World) : Sem.run Tryz.prog (eqGuard .eql 28 x y (.agg (arrI l)) (.agg (arrI m))) w = .ok () w := run_eqGuard_agg w .eql 28 x y _ _ (by kernel_rfl)
theorem wpList_eq_exc {ops : Array Oper} {rest : List Oper} {o : Oper} {a : Act} {w : World} {Q : Exit → Act → World → Prop} (hgd : Region.wanted o (yielded ops a.tmps) = true) (x y : Operand) (ho : o.op = .binOp .eql 28 x y 28)
    (l : List Int) (hl : l.length = 80) (hx : a.eval x = .agg (arrI l)) (hy : a.eval y = .agg (arrI l)) (k : wpList Tryz.prog ops Q rest (a.put o.dst (.bool true)) w) : wpList Tryz.prog ops Q (o :: rest) a w := by
  refine wpList_step fun K hK => ?_
  rw [if_pos hgd]
  have h1 := guard_exc x y l l w
  have h2 : Sem.run Tryz.prog (binOp .eql 28 (.agg (arrI l)) (.agg (arrI l))) w = .ok (.bool true) w := by
    rw [run_eql_struct, show (10000 : Nat) = 9998 + 1 + 1 from rfl, eq_arr l Tryz.underlying28 hl 9998 w]
    rfl
  unfold Oper.wp
  simp only [execOp, ho, hx, hy, Sem.run_bind, h1, Result.andThen_ok, h2]
  exact hK _ _ k
set_option maxRecDepth 100000 in
theorem law_topFades (w : World) (pn : CEnd 17 w) (pc : CEn 12 w) (pd : CDe 14 w) (pe : CErs 18 w) (pb : CBg 9 w) (pf : CFr 10 w) (v : Value) (n : Nat) (L : Nat → Tk) (h : Talks w v n L) :
    Calls Tryz.prog 6 #[v] w fun e w' => e = .returned (.bool true) ∧ Below w.heap.size w w' := by
  have EN := hide (pn v n L h)
  have AL := hide (fun wr g => alive_any w pc pd pb pf wr g)
  have GE := hide (syE_good L (min n 12))
  have GM := hide (feM_good L (min n 12))
  generalize syE L (min n 12) = E at *
  generalize syS L (min n 12) = t0 at *
  generalize feM L (min n 12) = M at *
  generalize feT L (min n 12) = u0 at *
  have ZL := hide (encC_len (zeros_len 225) false)
  have ZM := hide (memC_len (zeros_len 101) false)
  have hz := zero_enc
  have hy := zero_mem
  have CE := hide (encC_len GE.out.len t0)
  have AE := hide (BlkE.all t0 GE.out.len)
  have CM := hide (memC_len GM.out.1 u0)
  have AM := hide (BlkM.all u0 GM.out.1)
  have ER := hide (fun k wr g => pe (fadM M k) u0 (fadM_good GM.out.1 GM.out.2 k).1 (good_64 (fadM_good GM.out.1 GM.out.2 k).1 (fadM_good GM.out.1 GM.out.2 k).2) wr g)
  have ES := hide (fun k => (ers_yes (s := u0) (fadM_good GM.out.1 GM.out.2 k).2).2)
  have FL := hide (fun k => (fadM_good GM.out.1 GM.out.2 k).1)
  have SX := hide (fadM_six GM.out.1 GM.out.2)
  have F0 := hide (show fadM M 0 = M from rfl)
  have F_ := hide (fun k => show ersM (fadM M k) = fadM M (k + 1) from rfl)
  have F := hide (show ∀ w', w.grownBy w' none → (fun (e : Ending) (w' : World) => e = .returned (.bool true) ∧ Below w.heap.size w w') (.returned (.bool true)) w' from fun w' q => ⟨rfl, below_of_grown q⟩)
  obtain ⟨T, hT'⟩ : ∃ T : Ending → World → Prop, (fun (e : Ending) (w' : World) => e = .returned (.bool true) ∧ Below w.heap.size w w') = T := ⟨_, rfl⟩
  rw [hT'] at F ⊢
  clear hT'
  clear pn pc pd pe pb pf h
  unfold MemE at ER
  have hz80 := zero_arr z80t
  unfold encV at hz
  unfold memV at hy
  unfold EndE encV memV at EN
  unfold AnsC at AL
  go_enter Tryz.func6, Tryz.ntmps6
  go_wp2_with fail
  refine (EN.out w (grown_refl w none)).mono ?_
  rintro x W1 ⟨rfl, g1⟩
  have G1 := hide g1
  clear EN g1
  have E0 := hide (show BlkE ((W1.alloc (.cells (encC (zeros 225) false).toArray 32)).alloc (.cells (memC (zeros 101) false).toArray 30)) W1.heap.size (zeros 225) false from (BlkE.new W1 (zeros 225) false).keep (grown_alloc _ _ none))
  have M0 := hide (show BlkM ((W1.alloc (.cells (encC (zeros 225) false).toArray 32)).alloc (.cells (memC (zeros 101) false).toArray 30)) (W1.heap.size + 1) (zeros 101) false from by have := BlkM.new (W1.alloc (.cells (encC (zeros 225) false).toArray 32)) (zeros 101) false; simpa using this)
  have GC := hide (show W1.grownBy ((W1.alloc (.cells (encC (zeros 225) false).toArray 32)).alloc (.cells (memC (zeros 101) false).toArray 30)) none from grown_none (grown_alloc W1 _ none) (grown_alloc _ _ none))
  have P1 := E0.out.putAll (m := E) (t := t0) (zeros_len 225) GE.out.len
  have M1 := hide (M0.out.keepBut P1.2 (by omega))
  have P2 := M1.out.putAll (m := M) (t := u0) (zeros_len 101) GM.out.1
  have S3 := hide (P1.1.keepBut P2.2 (by omega))
  have M3 := hide P2.1
  have HB := hide (World.grownBy.size G1.out)
  have G3 := hide (grown_own (grown_own (grown_none G1.out GC.out) P1.2 (World.grownBy.size G1.out)) P2.2 (by have := World.grownBy.size G1.out; omega))
  clear M0 GC P1 P2 G1
  go_upto_region 2 with (first | refine wpList_store_v rfl 32 _ _ rfl W1.heap.size 0 32 (encC (zeros 225) false) (encC E t0) rfl rfl E0.out (by rw [ZL.out, CE.out]; omega) (by rw [CE.out]; exact size226) (encC_one _ _) ?_ | refine wpList_store_v rfl 30 _ _ rfl (W1.heap.size + 1) 0 30 (memC (zeros 101) false) (memC M u0) rfl rfl M1.out (by rw [ZM.out, CM.out]; omega) (by rw [CM.out]; exact size102) (memC_one _ _) ?_)
  (try simp only [Act.put])
  clear E0 M1
  generalize putV (putV ((W1.alloc (.cells (encC (zeros 225) false).toArray 32)).alloc (.cells (memC (zeros 101) false).toArray 30)) W1.heap.size 0 (encC E t0)) (W1.heap.size + 1) 0 (memC M u0) = W3 at *
  generalize W1.heap.size = bs at *
  go_wp2_with fail
  refine (AL.out _ G3.out).mono ?_
  rintro x W4 ⟨rfl, g4⟩
  have M4 := hide (M3.out.keep g4)
  have G4 := hide (grown_none G3.out g4)
  clear AL g4 M3 S3 G3 hz
  go_upto_region 4 with fail
  go_wp2_with fail
  go_loopw [24] (fun i wr => ∃ k : Nat, i = .int .i64 (k : Int) ∧ k ≤ 6 ∧ Hid (BlkM wr (bs + 1) (fadM M k) u0) ∧ Hid (w.grownBy wr none)) (fun i _ => 6 - (intOf i).toNat)
  case atStart => exact ⟨0, rfl, Nat.zero_le _, by rw [F0.out]; exact M4.out, G4.out⟩
  case round =>
    obtain ⟨k, rfl, hk, hM, hG⟩ := hrel
    clear M4 G4 CM AM
    have CM := hide (memC_len (FL.out k) u0)
    have AM := hide (BlkM.all u0 (FL.out k))
    have CN := hide (memC_len (FL.out (k + 1)) u0)
    have AN := hide (BlkM.all u0 (FL.out (k + 1)))
    have L0 := hide (FL.out k)
    have L1 := hide (FL.out (k + 1))
    have E1 := hide (ER.out k _ hG.out)
    rw [(ES.out k).1, (ES.out k).2.2, F_.out k] at E1
    unfold memV at E1
    by_cases hkl : k < 6
    · have i1 : (k : Int) < 6 := by omega
      clear ER ES FL SX F0 F_ F hz80
      generalize hN : fadM M (k + 1) = NM at *
      have HN := hide hN
      clear hN
      generalize fadM M k = MM at *
      generalize ersL MM = KL at *
      go_upto_region 6 with fail
      go_wp2_with (first | refine wpList_load_v rfl 30 _ rfl (bs + 1) 0 102 rfl 30 (memC MM u0) hM.out _ Tryz.underlying30 rfl size102 (by rw [CM.out]; omega) _ AM.out ?_)
      refine E1.out.mono ?_
      rintro x W6 ⟨v6, rfl, _, g6⟩
      have FB := hide (fresh_mem W6 NM u0 L1.out)
      have GB := hide (grown_none g6 FB.out.2.2)
      have M9 := hide (hM.out.keep GB.out)
      have G9 := hide (grown_none hG.out GB.out)
      clear GB g6 hM hG E1
      go_upto_region 7 with (first | refine wpList_store_v rfl 30 _ _ rfl W6.heap.size 0 30 (memC (zeros 101) false) (memC NM u0) rfl rfl FB.out.1 (by rw [ZM.out, CN.out]; omega) (by rw [CN.out]; exact size102) (memC_one _ _) ?_)
      (try simp only [Act.put])
      have N7 := hide FB.out.2.1
      clear FB
      generalize putV (W6.alloc (.cells (memC (zeros 101) false).toArray 30)) W6.heap.size 0 (memC NM u0) = W9 at *
      generalize W6.heap.size = bn at *
      have PM := M9.out.putAll (m := NM) (t := u0) L0.out L1.out
      have MX := hide PM.1
      have GX := hide (grown_own G9.out PM.2 (by have := HB.out; omega))
      clear PM G9
      go_upto_region 10 with (first | refine wpList_load_v rfl 30 _ rfl bn 0 102 rfl 30 (memC NM u0) N7.out _ Tryz.underlying30 rfl size102 (by rw [CN.out]; omega) _ AN.out ?_ | refine wpList_store_v rfl 30 _ _ rfl (bs + 1) 0 30 (memC MM u0) (memC NM u0) rfl rfl M9.out (by rw [CM.out, CN.out]; omega) (by rw [CN.out]; exact size102) (memC_one _ _) ?_)
      (try simp only [Act.put])
      clear M9 N7
      generalize putV W9 (bs + 1) 0 (memC NM u0) = W8 at *
      go_wp2_with fail
      have RL : ∃ j : Nat, Value.int .i64 ((k : Int) + 1) = .int .i64 j ∧ j ≤ 6 ∧ Hid (BlkM W8 (bs + 1) (fadM M j) u0) ∧ Hid (w.grownBy W8 none) := ⟨k + 1, by go_num, by omega, by rw [HN.out]; exact MX.out, GX.out⟩
      go_roundw
      case rel => exact RL
      case measure => simp [intOf]; omega
    · obtain rfl : k = 6 := by omega
      have SX' := hide (show prt (fadM M (6 + 1)) 16 80 = zeros 80 from SX.out)
      have Z80 := hide (zeros_len 80)
      have PX := hide (BlkM.part (l := fadM M (6 + 1)) u0 16 80 (by rw [L1.out]; omega))
      rw [SX'.out] at PX
      clear ER ES FL SX SX' F0 F_
      generalize zeros 80 = Z at *
      generalize fadM M (6 + 1) = NM at *
      generalize fadM M 6 = MM at *
      generalize ersL MM = KL at *
      rw [show ((6 : Nat) : Int) = 6 from rfl]
      go_upto_region 11 with fail
      go_wp2_with (first | refine wpList_load_v rfl 30 _ rfl (bs + 1) 0 102 rfl 30 (memC MM u0) hM.out _ Tryz.underlying30 rfl size102 (by rw [CM.out]; omega) _ AM.out ?_)
      refine E1.out.mono ?_
      rintro x W6 ⟨v6, rfl, _, g6⟩
      have FB := hide (fresh_mem W6 NM u0 L1.out)
      have G9 := hide (grown_none hG.out (grown_none g6 FB.out.2.2))
      clear g6 hM hG E1
      go_upto_region 12 with (first | refine wpList_store_v rfl 30 _ _ rfl W6.heap.size 0 30 (memC (zeros 101) false) (memC NM u0) rfl rfl FB.out.1 (by rw [ZM.out, CN.out]; omega) (by rw [CN.out]; exact size102) (memC_one _ _) ?_)
      (try simp only [Act.put])
      have N7 := hide FB.out.2.1
      clear FB
      generalize putV (W6.alloc (.cells (memC (zeros 101) false).toArray 30)) W6.heap.size 0 (memC NM u0) = W9 at *
      generalize W6.heap.size = bn at *
      have FF := hide (F.out _ G9.out)
      clear F
      go_wp2_with (first | refine wpList_load_vG (by first | rfl | (simp [Region.wanted, yielded]; done) | (simp [Region.wanted, yielded]; omega)) 28 _ rfl bn 16 80 rfl 30 (memC NM u0) N7.out _ Tryz.underlying28 rfl size80c (by rw [CN.out]; omega) _ PX.out ?_ | refine wpList_eq_exc (by first | rfl | (simp [Region.wanted, yielded]; done) | (simp [Region.wanted, yielded]; omega)) _ _ rfl Z Z80.out rfl rfl ?_)
      exact FF.out
theorem size16t : (Tryz.prog.info? 57).map (·.size) = some 16 := by kernel_rfl
theorem zSubsT : (Tryz.prog.info? 57).bind (·.zero) = some (.agg (arrI (zeros 16))) := by kernel_rfl
theorem guard_subs (x y : Operand) (l m : List Int) (w : World) : Sem.run Tryz.prog (eqGuard .eql 57 x y (.agg (arrI l)) (.agg (arrI m))) w = .ok () w := run_eqGuard_agg w .eql 57 x y _ _ (by kernel_rfl)
theorem wpList_eq_subs {ops : Array Oper} {rest : List Oper} {o : Oper} {a : Act} {w : World} {Q : Exit → Act → World → Prop} (hgd : Region.wanted o (yielded ops a.tmps) = true) (x y : Operand) (ho : o.op = .binOp .eql 57 x y 57)
    (l : List Int) (hl : l.length = 16) (hx : a.eval x = .agg (arrI l)) (hy : a.eval y = .agg (arrI l)) (k : wpList Tryz.prog ops Q rest (a.put o.dst (.bool true)) w) : wpList Tryz.prog ops Q (o :: rest) a w := by
  refine wpList_step fun K hK => ?_
  rw [if_pos hgd]
  have h1 := guard_subs x y l l w
  have h2 : Sem.run Tryz.prog (binOp .eql 57 (.agg (arrI l)) (.agg (arrI l))) w = .ok (.bool true) w := by
    rw [run_eql_struct, show (10000 : Nat) = 9996 + 1 + 1 + 1 + 1 from rfl, eq_subs 9996 l hl w]
    rfl
  unfold Oper.wp
  simp only [execOp, ho, hx, hy, Sem.run_bind, h1, Result.andThen_ok, h2]
  exact hK _ _ k
set_option maxRecDepth 100000 in
theorem law_topHeader (w : World) (pn : CEnd 17 w) (pc : CEn 12 w) (pd : CDe 14 w) (pe : CErs 18 w) (pb : CBg 9 w) (pf : CFr 10 w) (pu : PUn 20 w) (v : Value) (n : Nat) (L : Nat → Tk) (h : Talks w v n L) (vs : Value) (ls : List Int) (hs : Ints w vs ls) (hls : ls.length ≤ 9223372036854775807) (r : Bool) :
    Calls Tryz.prog 7 #[v, vs, .bool r] w fun e w' => e = .returned (.bool true) ∧ Below w.heap.size w w' := by
  have EN := hide (pn v n L h)
  have AL := hide (fun wr g => alive_any w pc pd pb pf wr g)
  have GE := hide (syE_good L (min n 12))
  have GM := hide (feM_good L (min n 12))
  generalize syE L (min n 12) = E at *
  generalize syS L (min n 12) = t0 at *
  generalize feM L (min n 12) = M at *
  generalize feT L (min n 12) = u0 at *
  have ZL := hide (encC_len (zeros_len 225) false)
  have ZM := hide (memC_len (zeros_len 101) false)
  have hz := zero_enc
  have hy := zero_mem
  have CE := hide (encC_len GE.out.len t0)
  have AE := hide (BlkE.all t0 GE.out.len)
  have CM := hide (memC_len GM.out.1 u0)
  have AM := hide (BlkM.all u0 GM.out.1)
  have GK := goodE_ok GE.out (frmL_len ls) (frmL_right ls)
  have RR := hide (tkR_of GE.out (frmL ls) (frmL_len _) (frmL_right _) r)
  have A := hide (fun v' wr' g h sh => pc E t0 GE.out.len (goodE_64 GE.out) v' (frmL ls) wr' g h sh (frm_64 _) (by rw [frmL_len]; omega) r)
  unfold EncE at A
  rw [RR.out.er] at A
  have FR := hide (fun wr' (g : w.grownBy wr' none) => frame_any vs ls wr' (Ints_keep hs g) hls)
  have UK := un_kind GE.out (frmL_len ls) (frmL_right ls) r
  have U := hide (fun v' wr' g h sh => pu v' (encB E (frmL ls) r) wr' g h RR.out.by' sh (by rw [RR.out.bl]; omega))
  unfold UnP at U
  rw [UK.1, UK.2] at U
  have XL := hide (encM_len (l := frmL ls) r GE.out.len)
  have FLn := hide (frmL_len ls)
  have PL := hide (enP_len (l := frmL ls) r GE.out.mem)
  have SH80 := hide (fun b l (hl : l.length = 80) => show Shp (.slice (some ⟨b, 0, none⟩) 80 80) l from .inr ⟨_, _, by rw [hl]⟩)
  have KR : r = true → nth (enP E (frmL ls) r) 0 = 1 := fun e => by rw [e]; exact enP_refresh _ _
  have KN : r = false → nth (enP E (frmL ls) r) 0 = 0 ∨ (nth (enP E (frmL ls) r) 0 = 2 ∧ prt (enP E (frmL ls) r) 9 16 = zeros 16) := fun e => by rw [e]; exact enP_kind _ _
  have F := hide (show ∀ w', w.grownBy w' none → (fun (e : Ending) (w' : World) => e = .returned (.bool true) ∧ Below w.heap.size w w') (.returned (.bool true)) w' from fun w' q => ⟨rfl, below_of_grown q⟩)
  obtain ⟨T, hT'⟩ : ∃ T : Ending → World → Prop, (fun (e : Ending) (w' : World) => e = .returned (.bool true) ∧ Below w.heap.size w w') = T := ⟨_, rfl⟩
  rw [hT'] at F ⊢
  clear hT'
  clear pn pc pd pe pb pf h pu hs hls GK UK RR
  generalize encM E (frmL ls) r = X at *
  generalize encT E (frmL ls) r = t1 at *
  generalize encB E (frmL ls) r = BB at *
  generalize encL E (frmL ls) r = HH at *
  generalize enP E (frmL ls) r = PP at *
  generalize frmL ls = fl at *
  have CX := hide (encC_len XL.out t1)
  unfold encV at A
  have hzp := zero_pktT
  unfold encV at hz
  unfold memV at hy
  unfold EndE encV memV at EN
  unfold AnsC at AL
  go_enter Tryz.func7, Tryz.ntmps7
  go_wp2_with fail
  refine (EN.out w (grown_refl w none)).mono ?_
  rintro x W1 ⟨rfl, g1⟩
  have G1 := hide g1
  clear EN g1
  have E0 := hide (show BlkE ((W1.alloc (.cells (encC (zeros 225) false).toArray 32)).alloc (.cells (memC (zeros 101) false).toArray 30)) W1.heap.size (zeros 225) false from (BlkE.new W1 (zeros 225) false).keep (grown_alloc _ _ none))
  have M0 := hide (show BlkM ((W1.alloc (.cells (encC (zeros 225) false).toArray 32)).alloc (.cells (memC (zeros 101) false).toArray 30)) (W1.heap.size + 1) (zeros 101) false from by have := BlkM.new (W1.alloc (.cells (encC (zeros 225) false).toArray 32)) (zeros 101) false; simpa using this)
  have GC := hide (show W1.grownBy ((W1.alloc (.cells (encC (zeros 225) false).toArray 32)).alloc (.cells (memC (zeros 101) false).toArray 30)) none from grown_none (grown_alloc W1 _ none) (grown_alloc _ _ none))
  have P1 := E0.out.putAll (m := E) (t := t0) (zeros_len 225) GE.out.len
  have M1 := hide (M0.out.keepBut P1.2 (by omega))
  have P2 := M1.out.putAll (m := M) (t := u0) (zeros_len 101) GM.out.1
  have S3 := hide (P1.1.keepBut P2.2 (by omega))
  have M3 := hide P2.1
  have HB := hide (World.grownBy.size G1.out)
  have G3 := hide (grown_own (grown_own (grown_none G1.out GC.out) P1.2 (World.grownBy.size G1.out)) P2.2 (by have := World.grownBy.size G1.out; omega))
  clear M0 GC P1 P2 G1
  go_upto_region 2 with (first | refine wpList_store_v rfl 32 _ _ rfl W1.heap.size 0 32 (encC (zeros 225) false) (encC E t0) rfl rfl E0.out (by rw [ZL.out, CE.out]; omega) (by rw [CE.out]; exact size226) (encC_one _ _) ?_ | refine wpList_store_v rfl 30 _ _ rfl (W1.heap.size + 1) 0 30 (memC (zeros 101) false) (memC M u0) rfl rfl M1.out (by rw [ZM.out, CM.out]; omega) (by rw [CM.out]; exact size102) (memC_one _ _) ?_)
  (try simp only [Act.put])
  clear E0 M1
  generalize putV (putV ((W1.alloc (.cells (encC (zeros 225) false).toArray 32)).alloc (.cells (memC (zeros 101) false).toArray 30)) W1.heap.size 0 (encC E t0)) (W1.heap.size + 1) 0 (memC M u0) = W3 at *
  generalize W1.heap.size = bs at *
  go_wp2_with fail
  refine (FR.out _ G3.out).mono ?_
  rintro x W4 ⟨bf, rfl, hbf, _, g4⟩
  have OF := hide hbf
  have S4 := hide (S3.out.keep g4)
  have G4 := hide (grown_none G3.out g4)
  clear FR hbf g4 S3 G3 M3
  go_upto_region 3 with fail
  have A1 := hide (A.out _ _ G4.out (ints80 OF.out FLn.out) (SH80.out _ _ FLn.out))
  clear A
  go_wp2_with (first | refine wpList_load_v rfl 32 _ rfl bs 0 226 rfl 32 (encC E t0) S4.out _ Tryz.underlying32 rfl size226 (by rw [CE.out]; omega) _ AE.out ?_)
  refine A1.out.mono ?_
  rintro x W5 ⟨vb, vl, rfl, ob, _, g5⟩
  have FE := hide (fresh_enc W5 X t1 XL.out)
  have G6 := hide (grown_none (grown_none G4.out g5) FE.out.2.2)
  have B6 := hide (ob.keep FE.out.2.2)
  clear A1 g5 ob S4 G4 OF
  go_upto_region 4 with (first | refine wpList_store_v rfl 32 _ _ rfl W5.heap.size 0 32 (encC (zeros 225) false) (encC X t1) rfl rfl FE.out.1 (by rw [ZL.out, CX.out]; omega) (by rw [CX.out]; exact size226) (encC_one _ _) ?_)
  (try simp only [Act.put])
  clear FE
  generalize putV (W5.alloc (.cells (encC (zeros 225) false).toArray 32)) W5.heap.size 0 (encC X t1) = W6 at *
  generalize W5.heap.size = bx at *
  have U1 := hide (U.out _ _ G6.out B6.out.byts B6.out.shp)
  clear U B6
  go_wp2_with fail
  refine U1.out.mono ?_
  rintro x W7 ⟨rfl, g7⟩
  obtain ⟨b1, b2, b3⟩ := fresh_arr W7 59 25 PP PL.out
  have B1 := hide b1
  have P8 := hide (show BlkV _ W7.heap.size 59 (intsV PP) from b2)
  have G8 := hide (grown_none (grown_none G6.out g7) b3)
  clear U1 g7 b1 b2 b3 G6
  go_upto_region 5 with (first | refine wpList_store_arr rfl 59 _ _ rfl _ (zeros 25) PP rfl rfl B1.out (by rw [PL.out, zeros_len]) (by rw [zeros_len]; exact size25) ?_)
  (try simp only [Act.put])
  clear B1 hzp
  generalize putArr _ W7.heap.size PP = W8 at *
  generalize W7.heap.size = bp at *
  go_wp2_with fail
  refine (AL.out _ G8.out).mono ?_
  rintro x W9 ⟨rfl, g9⟩
  have P9 := hide (P8.out.keep g9)
  have FF := hide (F.out _ (grown_none G8.out g9))
  clear AL g9 F P8 G8
  have cp := (P9.out.cell 0).trans (ints_getT PP 0 (by rw [PL.out]; omega))
  go_upto_region 7 with fail
  cases r with
  | true =>
    have k1 := KR rfl
    rw [k1] at cp
    clear KR KN k1
    go_wp2_with fail
    exact FF.out
  | false =>
    rcases KN rfl with k0 | ⟨k2, kz⟩
    · rw [k0] at cp
      clear KR KN k0
      go_wp2_with fail
      exact FF.out
    · rw [k2] at cp
      have PX := hide (ints_partT PP 9 16 (by rw [PL.out]; omega))
      rw [kz] at PX
      have hz16 := zero_arr zSubsT
      have Z16 := hide (zeros_len 16)
      clear KR KN k2 kz
      generalize zeros 16 = Z at *
      go_wp2_with (first | refine wpList_load_vG (by first | rfl | (simp [Region.wanted, yielded]; done) | (simp [Region.wanted, yielded]; omega)) 57 _ rfl bp 9 16 rfl 59 (intsV PP) P9.out _ Tryz.underlying57 rfl size16t (by rw [intsV_len, PL.out]; omega) _ PX.out ?_ | refine wpList_eq_subs (by first | rfl | (simp [Region.wanted, yielded]; done) | (simp [Region.wanted, yielded]; omega)) _ _ rfl Z Z16.out rfl rfl ?_)
      exact FF.out
end Go.Proofs.YtihphpcgjeokmaaGreatDoor

/- LTpG -/
namespace Go.Proofs.YtihphpcgjeokmaaGreatDoor
open Go.RowKit
set_option linter.unusedVariables false
theorem crd_topGood (W : World) (t0 : TabA W 2 gro 15) (t1 : TabA W 0 widq 8) (t2 : TabA W 1 gains 8) (v : Value) (n : Nat) (L : Nat → Tk) (h : Talks W v n L) :
    Calls Tryz.prog 5 #[v] W fun e w' => e = .returned (.bool true) ∧ Below W.heap.size W w' :=
  law_topGood W (cendT_of t0 t1 t2) (cen_of t0 t1 t2) (cde_of t0 t1 t2) (cersT_of W) (cbg_of W) (cfr_ofG W) (cgdT_of W) v n L h
theorem crd_topFades (W : World) (t0 : TabA W 2 gro 15) (t1 : TabA W 0 widq 8) (t2 : TabA W 1 gains 8) (v : Value) (n : Nat) (L : Nat → Tk) (h : Talks W v n L) :
    Calls Tryz.prog 6 #[v] W fun e w' => e = .returned (.bool true) ∧ Below W.heap.size W w' :=
  law_topFades W (cendT_of t0 t1 t2) (cen_of t0 t1 t2) (cde_of t0 t1 t2) (cersT_of W) (cbg_of W) (cfr_ofG W) v n L h
theorem crd_topHeader (W : World) (t0 : TabA W 2 gro 15) (t1 : TabA W 0 widq 8) (t2 : TabA W 1 gains 8) (v : Value) (n : Nat) (L : Nat → Tk) (h : Talks W v n L) (vs : Value) (ls : List Int) (hs : Ints W vs ls) (hl : ls.length * 8 ≤ 140737488351232) (hl64 : In64 ls) (hsh : Shp vs ls) (r : Bool) :
    Calls Tryz.prog 7 #[v, vs, .bool r] W fun e w' => e = .returned (.bool true) ∧ Below W.heap.size W w' :=
  law_topHeader W (cendT_of t0 t1 t2) (cen_of t0 t1 t2) (cde_of t0 t1 t2) (cersT_of W) (cbg_of W) (cfr_ofG W) (pun_ofG t1) v n L h vs ls hs (by omega) r
end Go.Proofs.YtihphpcgjeokmaaGreatDoor
