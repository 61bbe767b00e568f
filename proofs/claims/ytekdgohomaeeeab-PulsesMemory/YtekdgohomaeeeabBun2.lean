/- Texts put together: PulE, PulF, PulG, PulH, PulSc, PulEn, PitA, VBlk, DualMath, PowMath, GainMath, MemMath, ConX, LPmem, CnpS, PartL, CnpB, LCnP, Opens. -/
import Derived.Test.YtekdgohomaeeeabBun1
import Derived.BigQuiet
import Derived.Deep.QuietTactic
import Derived.WalkKit
import Derived.OwnWalk
import Derived.Laws.CopyOwn
import Derived.ProofKit
import Derived.OpenShut
import Derived.SizedLaws
import Derived.Carry
/- PulE -/
namespace Go.Proofs.Ytekdgohomaeeeab
open Go.RowKit
set_option linter.unusedVariables false
set_option linter.unusedSimpArgs false
set_option maxHeartbeats 1000000
theorem Frm.low {base : Nat} {a b c : World} {i : Nat} (h : Frm base a b) (k : b.grownBy c (some i)) (hi : i < base) : Frm base a c :=
  ⟨k.os.trans h.os, k.tape.trans h.tape, k.output.trans h.output, Nat.le_trans h.size k.size, fun j hj hs => (k.block j (Nat.lt_of_lt_of_le hs h.size) (fun e => by cases e; omega)).trans (h.block j hj hs)⟩
def kepL (s : List Int × Int × Int) : List Int := s.1 ++ [s.2.1, s.2.2]
def BsM (w0 : World) (vd : Value) (B : Nat) (s : List Int) (f : Bool) (wr : World) : Prop :=
  w0.grownBy wr none ∧ wr.heap[w0.heap.size]? = some (.cells #[vd] 22 (0, 0)) ∧ wr.heap[w0.heap.size + 1]? = some (.cells #[.pointer (some ⟨B, 0, none⟩)] 47 (0, 0)) ∧ Blk wr (w0.heap.size + 1 + 1) 28 (zeros 4) ∧ Blk wr (w0.heap.size + 1 + 1 + 1) 58 s ∧ wr.heap[w0.heap.size + 1 + 1 + 1 + 1]? = some (.cells #[.bool f] 4 (0, 0))
theorem BsM.more {w0 : World} {vd : Value} {B : Nat} {s : List Int} {f : Bool} {wr wr' : World} {r : Option Nat} (h : BsM w0 vd B s f wr) (g : wr.grownBy wr' r) (hr : ∀ b, r = some b → w0.heap.size + 5 ≤ b) : BsM w0 vd B s f wr' := by
  obtain ⟨h1, h2, h3, h4, h5, h6⟩ := h
  exact ⟨grown_own' h1 g (fun b e => by have := hr b e; omega), heap_grown h2 g (fun e => by have := hr _ e.symm; omega), heap_grown h3 g (fun e => by have := hr _ e.symm; omega), heap_grown h4 g (fun e => by have := hr _ e.symm; omega), heap_grown h5 g (fun e => by have := hr _ e.symm; omega), heap_grown h6 g (fun e => by have := hr _ e.symm; omega)⟩
theorem BsM.keep {w0 : World} {vd : Value} {B : Nat} {s : List Int} {f : Bool} {wr wr' : World} (h : BsM w0 vd B s f wr) (g : wr.grownBy wr' none) : BsM w0 vd B s f wr' := h.more g (fun b e => by cases e)
theorem BsM.put {w0 : World} {vd : Value} {B : Nat} {s s' : List Int} {f : Bool} {wr : World} (h : BsM w0 vd B s f wr) (hl : s'.length = s.length) : BsM w0 vd B s' f (putArr wr (w0.heap.size + 1 + 1 + 1) s') := by
  obtain ⟨h1, h2, h3, h4, h5, h6⟩ := h
  have PU := put_arr (rs' := s') h5 hl
  exact ⟨grown_own h1 PU.2 (by omega), heap_grown h2 PU.2 (fun e => by have := Option.some.inj e; (try dsimp only at this); omega), heap_grown h3 PU.2 (fun e => by have := Option.some.inj e; (try dsimp only at this); omega), heap_grown h4 PU.2 (fun e => by have := Option.some.inj e; (try dsimp only at this); omega), PU.1, heap_grown h6 PU.2 (fun e => by have := Option.some.inj e; (try dsimp only at this); omega)⟩
theorem BsM.flag {w0 : World} {vd : Value} {B : Nat} {s : List Int} {f : Bool} {wr : World} (h : BsM w0 vd B s f wr) (v : Bool) : BsM w0 vd B s v (wr.setCell ⟨w0.heap.size + 1 + 1 + 1 + 1, 0, none⟩ (.bool v)) := by
  obtain ⟨h1, h2, h3, h4, h5, h6⟩ := h
  have g := grown_setCell wr ⟨w0.heap.size + 1 + 1 + 1 + 1, 0, none⟩ (.bool v)
  refine ⟨grown_own h1 g (by simp; omega), heap_grown h2 g (fun e => by have := Option.some.inj e; (try dsimp only at this); omega), heap_grown h3 g (fun e => by have := Option.some.inj e; (try dsimp only at this); omega), heap_grown h4 g (fun e => by have := Option.some.inj e; (try dsimp only at this); omega), heap_grown h5 g (fun e => by have := Option.some.inj e; (try dsimp only at this); omega), ?_⟩
  rw [heap_setCell h6]
  rfl
def BsI (w0 : World) (vd : Value) (B : Nat) (C E : List Int → Int) (ix : Nat → List Int) (m : Nat) (wr : World) : Prop := BsM w0 vd B (kepL (bsS C E ix m)) (decide (m = 0)) wr
theorem cS_bd (d x : List Int) : cS d x ≤ 9223372036854775807 := by
  show wrap64 _ ≤ _
  unfold wrap64
  omega
theorem eS_bd (d r x : List Int) : eS d r x ≤ 9223372036854775807 := by
  have := scE_bd d r x 4 0 (by omega) (by omega)
  unfold eS
  omega
theorem bsS_len (C E : List Int → Int) (ix : Nat → List Int) (N : Nat) (hix : ∀ m, m < N → (ix m).length = 4) : ∀ m, m ≤ N → (bsS C E ix m).1.length = 4
  | 0, _ => rfl
  | m + 1, hm => by
    obtain ⟨j, hj, e⟩ := bsS_own C E ix (m + 1) (by omega)
    rw [e]
    exact hix j (by omega)
set_option maxRecDepth 100000 in
theorem pulBest1_any (w0 : World) (vd : Value) (B : Nat) (d r : List Int) (ix : Nat → List Int) (N : Nat) (hd : Ints w0 vd d) (hdl : d.length = 40) (hB : Blk w0 B 64 (tbl r)) (hix : ∀ m, m < N → (ix m).length = 4 ∧ goodX (ix m) = true)
    (m : Nat) (wr : World) (hm : m < N) (hsz : w0.heap.size + 5 ≤ wr.heap.size) (hI : BsI w0 vd B (cS d) (eS d r) ix m wr) :
    Calls Try.prog 37 #[.agg (arrI (ix m)), .pointer (some ⟨w0.heap.size, 0, none⟩), .pointer (some ⟨w0.heap.size + 1, 0, none⟩), .pointer (some ⟨w0.heap.size + 1 + 1 + 1 + 1, 0, none⟩), .pointer (some ⟨w0.heap.size + 1 + 1 + 1, 0, none⟩)] wr fun e w' => e = .returned (.tuple #[]) ∧ BsI w0 vd B (cS d) (eS d r) ix (m + 1) w' ∧ Frm (w0.heap.size + 5) wr w' := by
  obtain ⟨hx, hg⟩ := hix m hm
  have ga := grown_alloc wr (.cells (arrI (ix m)) 28) none
  have M1 := hide (BsM.keep hI ga)
  have F1 := hide (Frm.of (base := w0.heap.size + 5) ga)
  have BX := hide (Blk.new wr 28 (ix m))
  have SC := hide (fun W (g : w0.grownBy W none) => pulScored_any vd d r (ix m) B W (Ints_keep hd g) hdl (hB.keep g) hx hg)
  have LK := hide (bsS_len (cS d) (eS d r) ix N (fun j hj => (hix j hj).1) m (by omega))
  have NX := hide (show m = 0 ∨ btr (cS d (ix m)) (eS d r (ix m)) (bsS (cS d) (eS d r) ix m).2.1 (bsS (cS d) (eS d r) ix m).2.2 = true → bsS (cS d) (eS d r) ix (m + 1) = (ix m, cS d (ix m), eS d r (ix m)) from bsS_yes _ _ _ _)
  have NN := hide (show ¬ (m = 0 ∨ btr (cS d (ix m)) (eS d r (ix m)) (bsS (cS d) (eS d r) ix m).2.1 (bsS (cS d) (eS d r) ix m).2.2 = true) → bsS (cS d) (eS d r) ix (m + 1) = bsS (cS d) (eS d r) ix m from bsS_no _ _ _ _)
  have KB := hide (show 0 < m → (bsS (cS d) (eS d r) ix m).2.1 ≤ 9223372036854775807 ∧ (bsS (cS d) (eS d r) ix m).2.2 ≤ 9223372036854775807 from fun h => by
    obtain ⟨j, _, e⟩ := bsS_own (cS d) (eS d r) ix m h
    rw [e]
    exact ⟨cS_bd _ _, eS_bd _ _ _⟩)
  have hcb := cS_bd d (ix m)
  have heb := eS_bd d r (ix m)
  have FIN := hide (show ∀ w' v, bsS (cS d) (eS d r) ix (m + 1) = v → BsM w0 vd B (kepL v) false w' → BsI w0 vd B (cS d) (eS d r) ix (m + 1) w' from fun w' v e h => by unfold BsI; rw [e]; simpa using h)
  have hz := zero_arr zCho
  obtain ⟨ad, cp, rfl, hcp, _⟩ := hd
  have CL := hide (fun c e z => cho_c (ix m) hx c e z)
  unfold BsI at hI
  clear hB hix hg hcp hdl hI ga
  generalize BsI w0 _ B (cS d) (eS d r) ix (m + 1) = Fin at *
  generalize bsS (cS d) (eS d r) ix m = ks at *
  generalize bsS (cS d) (eS d r) ix (m + 1) = ks' at *
  generalize cS d (ix m) = C at *
  generalize eS d r (ix m) = E at *
  generalize ix m = x at *
  obtain ⟨kx, kc, ke⟩ := ks
  dsimp only at NX NN KB LK
  have CK := hide (fun c e z => cho_c kx LK.out c e z)
  go_enter Try.func37, Try.ntmps37
  go_upto_region 1 with fail
  generalize wr.alloc (.cells (arrI x) 28) = W1 at *
  have cd : W1.cell? ⟨w0.heap.size, 0, none⟩ = some (.slice ad d.length cp) := (cell_of_heap M1.out.2.1 0).trans rfl
  have cb : W1.cell? ⟨w0.heap.size + 1, 0, none⟩ = some (.pointer (some ⟨B, 0, none⟩)) := (cell_of_heap M1.out.2.2.1 0).trans rfl
  have SS := hide (SC.out W1 M1.out.1)
  go_wp2_with (first | refine wpList_load_arr rfl 28 _ rfl _ rfl _ BX.out _ Try.underlying28 rfl (by rw [hx]; exact size4) ?_)
  refine SS.out.mono ?_
  rintro e w2 ⟨rfl, g2⟩
  have hX := (CL.out C E 0).2.2.2.2
  have x4 := (CL.out C E 0).2.2.1
  have x5 := (CL.out C E 0).2.2.2.1
  have FA := fresh_arr w2 58 6 (x ++ [C, E]) hX
  have BZ := hide FA.1
  have M3 := hide ((M1.out.keep g2).keep FA.2.2)
  have F3 := hide ((F1.out.trans (Frm.of g2)).trans (Frm.of FA.2.2))
  have BA := hide FA.2.1
  have EX := hide (show x ++ [C, E] = kepL (x, C, E) from rfl)
  clear SS SC g2 FA cd cb M1 F1 BX
  have HX := hide hX
  clear hX
  go_upto_region 2 with (first | refine wpList_store_arr rfl 58 _ _ rfl _ (zeros 6) (x ++ [C, E]) rfl rfl BZ.out (by rw [HX.out, zeros_len]) (by rw [zeros_len]; exact sCho) ?_)
  (try simp only [Act.put])
  clear BZ hz
  generalize putArr (w2.alloc _) w2.heap.size (x ++ [C, E]) = W3 at *
  generalize w2.heap.size = b6 at *
  have q4 := BA.out.cell 4 (by rw [HX.out]; omega)
  have q5 := BA.out.cell 5 (by rw [HX.out]; omega)
  rw [x4] at q4
  rw [x5] at q5
  clear x4 x5
  have cf := (cell_of_heap M3.out.2.2.2.2.2 0).trans (show (#[Value.bool (decide (m = 0))] : Array Value)[0]? = some (.bool (decide (m = 0))) from rfl)
  have ff := frozen_of_heap M3.out.2.2.2.2.2 0
  have BK := hide M3.out.2.2.2.2.1
  have hK6 := (CK.out kc ke 0).2.2.2.2
  rw [show kepL (kx, kc, ke) = kx ++ [kc, ke] from rfl] at BK M3
  have MP := hide (M3.out.put (s' := x ++ [C, E]) (by rw [HX.out, hK6]))
  have FP := hide (F3.out.low (put_arr (rs' := x ++ [C, E]) BK.out (by rw [HX.out, hK6])).2 (by omega))
  have HK6 := hide hK6
  by_cases h0 : m = 0
  · rw [decide_eq_true h0] at cf M3 MP
    have EN := hide (NX.out (.inl h0))
    clear NX NN KB CK h0 hK6
    go_upto_region 3 with fail
    go_upto_region 4 with (first | refine wpList_load_arr rfl 58 _ rfl _ rfl _ BA.out _ Try.underlying58 rfl (by rw [HX.out]; exact sCho) ?_ | refine wpList_store_arr rfl 58 _ _ rfl _ (kx ++ [kc, ke]) (x ++ [C, E]) rfl rfl BK.out (by rw [HX.out, HK6.out]) (by rw [HK6.out]; exact sCho) ?_)
    (try simp only [Act.put])
    clear BA BK q4 q5 cf ff M3 F3
    generalize putArr W3 _ (x ++ [C, E]) = W4 at *
    have cf := (cell_of_heap MP.out.2.2.2.2.2 0).trans (show (#[Value.bool true] : Array Value)[0]? = some (.bool true) from rfl)
    have ff := frozen_of_heap MP.out.2.2.2.2.2 0
    have MF := hide (MP.out.flag false)
    have FF := hide (FP.out.low (grown_setCell W4 ⟨w0.heap.size + 1 + 1 + 1 + 1, 0, none⟩ (.bool false)) (by simp <;> omega))
    clear MP FP
    go_wp2_with fail
    go_end0
    exact ⟨rfl, FIN.out _ _ EN.out MF.out, FF.out⟩
  · rw [decide_eq_false h0] at cf M3 MP
    obtain ⟨kb1, kb2⟩ := KB.out (by omega)
    have r4 := BK.out.cell 4 (by omega)
    have r5 := BK.out.cell 5 (by omega)
    rw [(CK.out kc ke 0).2.2.1] at r4
    rw [(CK.out kc ke 0).2.2.2.1] at r5
    have BT := hide (betterG_any C E kc ke hcb heb kb1 kb2 W3)
    rcases hb : btr C E kc ke with _ | _
    · rw [hb] at BT
      have EN := hide (NN.out (fun h => by rcases h with h | h; exact h0 h; rw [hb] at h; cases h))
      clear NX NN KB CK h0 hK6 hb MP FP
      go_wp2_with fail
      refine BT.out.mono ?_
      rintro e w7 ⟨rfl, g7⟩
      have M7 := hide (M3.out.keep g7)
      have F7 := hide (F3.out.trans (Frm.of g7))
      clear g7 BT M3 F3 BA BK q4 q5 r4 r5 cf ff
      have cf := (cell_of_heap M7.out.2.2.2.2.2 0).trans (show (#[Value.bool false] : Array Value)[0]? = some (.bool false) from rfl)
      have ff := frozen_of_heap M7.out.2.2.2.2.2 0
      have MF := hide (M7.out.flag false)
      have FF := hide (F7.out.low (grown_setCell w7 ⟨w0.heap.size + 1 + 1 + 1 + 1, 0, none⟩ (.bool false)) (by simp <;> omega))
      clear M7 F7
      go_wp2_with fail
      go_end0
      exact ⟨rfl, FIN.out _ _ EN.out MF.out, FF.out⟩
    · rw [hb] at BT
      have EN := hide (NX.out (.inr hb))
      clear NX NN KB CK h0 hK6 hb MP FP
      go_wp2_with fail
      refine BT.out.mono ?_
      rintro e w7 ⟨rfl, g7⟩
      have M7 := hide (M3.out.keep g7)
      have F7 := hide (F3.out.trans (Frm.of g7))
      have BA7 := hide (BA.out.keep g7)
      have BK7 := hide (BK.out.keep g7)
      have MP := hide (M7.out.put (s' := x ++ [C, E]) (by rw [HX.out, HK6.out]))
      have FP := hide (F7.out.low (put_arr (rs' := x ++ [C, E]) BK7.out (by rw [HX.out, HK6.out])).2 (by omega))
      clear g7 BT M3 F3 BA BK q4 q5 r4 r5 cf ff M7 F7
      go_upto_region 3 with fail
      go_upto_region 4 with (first | refine wpList_load_arr rfl 58 _ rfl _ rfl _ BA7.out _ Try.underlying58 rfl (by rw [HX.out]; exact sCho) ?_ | refine wpList_store_arr rfl 58 _ _ rfl _ (kx ++ [kc, ke]) (x ++ [C, E]) rfl rfl BK7.out (by rw [HX.out, HK6.out]) (by rw [HK6.out]; exact sCho) ?_)
      (try simp only [Act.put])
      clear BA7 BK7
      generalize putArr w7 _ (x ++ [C, E]) = W4 at *
      have cf := (cell_of_heap MP.out.2.2.2.2.2 0).trans (show (#[Value.bool false] : Array Value)[0]? = some (.bool false) from rfl)
      have ff := frozen_of_heap MP.out.2.2.2.2.2 0
      have MF := hide (MP.out.flag false)
      have FF := hide (FP.out.low (grown_setCell W4 ⟨w0.heap.size + 1 + 1 + 1 + 1, 0, none⟩ (.bool false)) (by simp <;> omega))
      clear MP FP
      go_wp2_with fail
      go_end0
      exact ⟨rfl, FIN.out _ _ EN.out MF.out, FF.out⟩
theorem enters_best1 (args : Array Value) (u : World) : (callFunc 37 args).run Try.prog u = .ok (.enter 37 args) u := by kernel_rfl
def Walks (w0 : World) (nW : Nat) (capsW : Array Value) (ix : Nat → List Int) (N : Nat) : Prop :=
  ∀ (wr : World) (base nV : Nat) (capsV : Array Value) (Inv : Nat → World → Prop), w0.grownBy wr none → (∀ args u, (callFunc nV args).run Try.prog u = .ok (.enter nV args) u) → Stab base Inv → Vis base nV capsV Inv ix N → base ≤ wr.heap.size → Inv 0 wr →
    Calls Try.prog nW (#[.func (.func nV) #[] capsV] ++ capsW) wr fun e w' => e = .returned (.tuple #[]) ∧ Inv N w' ∧ Frm base wr w'
theorem wpList_load_pre {ops : Array Oper} {rest : List Oper} {op : Oper} {a : Act} {w : World} {Q : Exit → Act → World → Prop} (hgd : op.guard = none) (T T' : TypeId) (x : Operand) (ho : op.op = .load T x)
    (b : Nat) (hx : a.eval x = .pointer (some ⟨b, 0, none⟩)) (rs qs : List Int) (h : Blk w b T' (rs ++ qs)) (d : TypeDesc) (hu : Try.prog.underlying T = some d) (hd : d.isRow = true) (hi : (Try.prog.info? T).map (·.size) = some rs.length)
    (k : wpList Try.prog ops Q rest (a.put op.dst (.agg (arrI rs))) w) : wpList Try.prog ops Q (op :: rest) a w := by
  refine wpList_load_mid hgd T x ho b 0 hx (rs.map (Value.int .i64)) d (fun j v hv => h.range j v ?_) hu hd (by simpa using hi) k
  rw [List.map_append, List.getElem?_append_left]
  · exact hv
  · by_cases hj : j < (rs.map (Value.int .i64)).length
    · exact hj
    · rw [List.getElem?_eq_none (by omega)] at hv; cases hv
theorem zArr4 : (Try.prog.info? 28).bind (·.zero) = some (.agg (arrI (zeros 4))) := by kernel_rfl
set_option maxRecDepth 100000 in
theorem pulBest_any (vd : Value) (B : Nat) (d r : List Int) (ix : Nat → List Int) (N : Nat) (w : World) (hd : Ints w vd d) (hdl : d.length = 40) (hB : Blk w B 64 (tbl r)) (hix : ∀ m, m < N → (ix m).length = 4 ∧ goodX (ix m) = true)
    (nW : Nat) (capsW : Array Value) (hen : ∀ args u, (callFunc nW args).run Try.prog u = .ok (.enter nW args) u) (hW : Walks w nW capsW ix N) :
    Calls Try.prog 21 #[vd, .pointer (some ⟨B, 0, none⟩), .func (.func nW) #[] capsW] w (AnsG w (.agg (arrI (bsS (cS d) (eS d r) ix N).1))) := by
  have hmf : ∀ (fn : Fn) (first cap : Array Value) (w : World), (Instr.makeFunc fn first cap).run Try.prog w = .ok (.func fn first cap) w := fun _ _ _ _ => rfl
  have hz4 := zero_arr zArr4
  have hz6 := zero_arr zCho
  have LEN := hide (bsS_len (cS d) (eS d r) ix N (fun j hj => (hix j hj).1) N (Nat.le_refl _))
  have VIS := hide (show Vis (w.heap.size + 5) 37 #[.pointer (some ⟨w.heap.size, 0, none⟩), .pointer (some ⟨w.heap.size + 1, 0, none⟩), .pointer (some ⟨w.heap.size + 1 + 1 + 1 + 1, 0, none⟩), .pointer (some ⟨w.heap.size + 1 + 1 + 1, 0, none⟩)] (BsI w vd B (cS d) (eS d r) ix) ix N from
    fun m wr hm hs hI => pulBest1_any w vd B d r ix N hd hdl hB hix m wr hm hs hI)
  have STB := hide (show Stab (w.heap.size + 5) (BsI w vd B (cS d) (eS d r) ix) from fun m wr wr' r h g hr => BsM.more h g hr)
  have WK := hide (fun wr (g : w.grownBy wr none) (hs : w.heap.size + 5 ≤ wr.heap.size) (hI : BsI w vd B (cS d) (eS d r) ix 0 wr) => hW wr (w.heap.size + 5) 37 _ _ g enters_best1 STB.out VIS.out hs hI)
  obtain ⟨ad, cp, rfl, hcp, _⟩ := hd
  have L := hide (show BsI w (.slice ad d.length cp) B (cS d) (eS d r) ix 0 (((((w.alloc (.cells #[.slice ad d.length cp] 22)).alloc (.cells #[.pointer (some ⟨B, 0, none⟩)] 47)).alloc (.cells (arrI (zeros 4)) 28)).alloc (.cells (arrI (zeros 6)) 58)).alloc (.cells #[.bool true] 4)) ∧ w.heap.size + 5 ≤ (((((w.alloc (.cells #[.slice ad d.length cp] 22)).alloc (.cells #[.pointer (some ⟨B, 0, none⟩)] 47)).alloc (.cells (arrI (zeros 4)) 28)).alloc (.cells (arrI (zeros 6)) 58)).alloc (.cells #[.bool true] 4)).heap.size from by
    have g1 := grown_alloc w (.cells #[.slice ad d.length cp] 22) none
    have h1 := heap_new w (.cells #[.slice ad d.length cp] 22)
    generalize hw1 : w.alloc (.cells #[.slice ad d.length cp] 22) = w1 at *
    have s1 : w1.heap.size = w.heap.size + 1 := by rw [← hw1]; simp
    have g2 := grown_alloc w1 (.cells #[.pointer (some ⟨B, 0, none⟩)] 47) none
    have h2 := heap_new w1 (.cells #[.pointer (some ⟨B, 0, none⟩)] 47)
    generalize hw2 : w1.alloc (.cells #[.pointer (some ⟨B, 0, none⟩)] 47) = w2 at *
    have s2 : w2.heap.size = w.heap.size + 1 + 1 := by rw [← hw2]; simp [s1]
    have g3 := grown_alloc w2 (.cells (arrI (zeros 4)) 28) none
    have h3 := Blk.new w2 28 (zeros 4)
    generalize hw3 : w2.alloc (.cells (arrI (zeros 4)) 28) = w3 at *
    have s3 : w3.heap.size = w.heap.size + 1 + 1 + 1 := by rw [← hw3]; simp [s2]
    have g4 := grown_alloc w3 (.cells (arrI (zeros 6)) 58) none
    have h4 := Blk.new w3 58 (zeros 6)
    generalize hw4 : w3.alloc (.cells (arrI (zeros 6)) 58) = w4 at *
    have s4 : w4.heap.size = w.heap.size + 1 + 1 + 1 + 1 := by rw [← hw4]; simp [s3]
    have g5 := grown_alloc w4 (.cells #[.bool true] 4) none
    have h5 := heap_new w4 (.cells #[.bool true] 4)
    have s5 : (w4.alloc (.cells #[.bool true] 4)).heap.size = w.heap.size + 1 + 1 + 1 + 1 + 1 := by simp [s4]
    rw [s1] at h2
    rw [s2] at h3
    rw [s3] at h4
    rw [s4] at h5
    refine ⟨⟨grown_none (grown_none (grown_none (grown_none g1 g2) g3) g4) g5, ?_, ?_, ?_, h4.keep g5, h5⟩, by omega⟩
    · exact heap_grown (heap_grown (heap_grown (heap_grown h1 g2 (by simp)) g3 (by simp)) g4 (by simp)) g5 (by simp)
    · exact heap_grown (heap_grown (heap_grown h2 g3 (by simp)) g4 (by simp)) g5 (by simp)
    · exact (h3.keep g4).keep g5)
  clear VIS STB hW hix hcp hB hdl
  go_enter Try.func21, Try.ntmps21
  go_upto_region 3 with fail
  generalize ((((w.alloc _).alloc _).alloc _).alloc _).alloc _ = W1 at *
  go_wp2_with fail
  refine (WK.out W1 L.out.1.1 L.out.2 L.out.1).mono ?_
  rintro e w2 ⟨rfl, j2, f2⟩
  have M2 := hide j2
  unfold BsI at M2
  clear j2 f2 WK L hmf hz4 hz6 hen
  generalize bsS (cS d) (eS d r) ix N = ks at *
  obtain ⟨kx, kc, ke⟩ := ks
  dsimp only at LEN ⊢
  have BK := hide M2.out.2.2.2.2.1
  rw [show kepL (kx, kc, ke) = kx ++ [kc, ke] from rfl] at BK
  have BZ := hide M2.out.2.2.2.1
  have GG := hide M2.out.1
  clear M2
  go_wp2_with (first | refine wpList_load_pre rfl 28 58 _ rfl _ rfl kx [kc, ke] BK.out _ Try.underlying28 rfl (by rw [LEN.out]; exact size4) ?_ | refine wpList_store_arr rfl 28 _ _ rfl _ (zeros 4) kx rfl rfl BZ.out (by rw [LEN.out, zeros_len]) (by rw [zeros_len]; exact size4) ?_)
  have PU := put_arr (rs' := kx) BZ.out (by rw [LEN.out, zeros_len])
  have hlv := loadVar_arr PU.1 _ Try.underlying28 rfl (by rw [LEN.out]; exact size4)
  have GF := hide (grown_own GG.out PU.2 (by omega))
  refine bodyPost_ret (v := .agg (arrI kx)) ?_ rfl ⟨rfl, GF.out⟩
  simp [results, Try.results21, asAddr, Act.put, hlv]
end Go.Proofs.Ytekdgohomaeeeab

/- PulF -/
namespace Go.Proofs.Ytekdgohomaeeeab
open Go.RowKit
set_option linter.unusedVariables false
set_option linter.unusedSimpArgs false
set_option maxHeartbeats 1000000
def Finds (w0 : World) (nF : Nat) (capsF : Array Value) (r X : List Int) : Prop :=
  ∀ (wr : World) (B : Nat), w0.grownBy wr none → Blk wr B 64 (tbl r) → Calls Try.prog nF (#[.pointer (some ⟨B, 0, none⟩)] ++ capsF) wr (AnsG wr (.agg (arrI X)))
theorem enters_Few11 (args : Array Value) (u : World) : (callFunc 22 args).run Try.prog u = .ok (.enter 22 args) u := by kernel_rfl
set_option maxRecDepth 100000 in
theorem pulFew11_walks (w0 : World) (x : List Int) (hx : x.length = 4) (t : Nat) (ht : t < 4) (bi bt : Nat) (hb1 : Blk w0 bi 28 x) (hc : w0.cell? ⟨bt, 0, none⟩ = some (.int .i64 (t : Int))) : Walks w0 22 #[.pointer (some ⟨bi, 0, none⟩), .pointer (some ⟨bt, 0, none⟩)] (fun p => x.set t (p : Int)) 10 := by
  intro wr base nV capsV Inv g hen hst hV hb hI
  have CA := hide (pulWalkTrack_any nV capsV hen base Inv hst x hx t ht hV wr hb hI)
  have ct := grown_keep g hc
  have BB := hide (hb1.keep g)
  clear hst hV hI hb hc hb1 g
  show Calls Try.prog 22 #[.func (.func nV) #[] capsV, .pointer (some ⟨bi, 0, none⟩), .pointer (some ⟨bt, 0, none⟩)] wr _
  go_enter Try.func22, Try.ntmps22
  go_wp2_with (first | refine wpList_load_arr rfl 28 _ rfl _ rfl _ BB.out _ Try.underlying28 rfl (by rw [hx]; exact size4) ?_)
  refine CA.out.mono ?_
  rintro e w2 ⟨rfl, j2, f2⟩
  have F := hide (And.intro j2 f2)
  clear CA j2 f2 ct BB
  go_wp2_with fail
  first | go_end0 | refine bodyPost_ret (results_none rfl _ _ _) rfl ?_
  exact ⟨rfl, F.out⟩
theorem enters_Few1 (args : Array Value) (u : World) : (callFunc 20 args).run Try.prog u = .ok (.enter 20 args) u := by kernel_rfl
def FwM (w wr : World) (x : List Int) : Prop := Mem2 w wr 28 28 (zeros 4) x
theorem FwM.put {w wr : World} {x x' : List Int} (h : FwM w wr x) (hl : x'.length = x.length) : FwM w (putArr wr (w.heap.size + 1) x') x' := by
  have PU := put_arr (rs' := x') h.2.1 hl
  exact ⟨h.1.keepBut PU.2 (by omega), PU.1, grown_own h.2.2 PU.2 (by omega)⟩
set_option maxRecDepth 100000 in
theorem pulFew1_finds (w0 : World) (vd : Value) (d r : List Int) (bd : Nat) (hd : Ints w0 vd d) (hdl : d.length = 40) (hc : w0.cell? ⟨bd, 0, none⟩ = some vd) : Finds w0 20 #[.pointer (some ⟨bd, 0, none⟩)] r (fewX d r) := by
  intro wE B g hB
  have hmf : ∀ (fn : Fn) (first cap : Array Value) (w : World), (Instr.makeFunc fn first cap).run Try.prog w = .ok (.func fn first cap) w := fun _ _ _ _ => rfl
  have hz4 := zero_arr zArr4
  have M0 := hide (show FwM wE ((wE.alloc (.cells (arrI (zeros 4)) 28)).alloc (.cells (arrI (zeros 4)) 28)) (zeros 4) from laid2 wE 28 28 (zeros 4) (zeros 4))
  have BE := hide (fun W (gW : wE.grownBy W none) (x : List Int) (hx : x.length = 4) (gx : goodX x = true) (t : Nat) (ht : t < 4) (bi bt : Nat) (hb1 : Blk W bi 28 x) (hc' : W.cell? ⟨bt, 0, none⟩ = some (.int .i64 (t : Int))) =>
    pulBest_any vd B d r (fun p => x.set t (p : Int)) 10 W (Ints_keep hd (grown_none g gW)) hdl (hB.keep gW) (fun m hm => ⟨by simpa using hx, goodX_set gx _ _ (by omega) (by omega)⟩) 22 #[.pointer (some ⟨bi, 0, none⟩), .pointer (some ⟨bt, 0, none⟩)] enters_Few11 (pulFew11_walks W x hx t ht bi bt hb1 hc'))
  have CD := hide (fun W (gW : wE.grownBy W none) => grown_keep (grown_none g gW) hc)
  have GD := hide (fewN_good (cS d) (eS d r))
  have STEP := hide (fun k => (show fewN (cS d) (eS d r) (k + 1) = (bsS (cS d) (eS d r) (fun p => (fewN (cS d) (eS d r) k).set (k % 4) (p : Int)) 10).1 from rfl))
  obtain ⟨ad, cp, rfl, _, _⟩ := hd
  rw [show fewX d r = fewN (cS d) (eS d r) 8 from rfl]
  clear hB g hc hdl
  go_enter Try.func20, Try.ntmps20
  go_wp2_with fail
  generalize (wE.alloc _).alloc _ = W0 at *
  clear hz4
  go_loopw [6, 8] (fun i _ W => ∃ n : Nat, i = .int .i64 n ∧ n ≤ 2 ∧ Hid (FwM wE W (fewN (cS d) (eS d r) (4 * n)))) (fun i _ _ => 2 - (intOf i).toNat)
  case atStart => exact ⟨0, rfl, Nat.zero_le _, M0.out⟩
  case round =>
    obtain ⟨n, rfl, hn, hM⟩ := hrel
    clear M0
    by_cases hn2 : n < 2
    · have i1 : (n : Int) < 2 := by omega
      go_wp2_with fail
      go_loopw [8] (fun i W => ∃ t : Nat, i = .int .i64 t ∧ t ≤ 4 ∧ Hid (FwM wE W (fewN (cS d) (eS d r) (4 * n + t)))) (fun i _ => 4 - (intOf i).toNat)
      case atStart => exact ⟨0, rfl, Nat.zero_le _, hM.out⟩
      case round =>
        obtain ⟨t, rfl, ht, hM⟩ := hrel
        by_cases ht4 : t < 4
        · have i2 : (t : Int) < 4 := by omega
          have ga := grown_alloc wr (.cells #[.int .i64 (t : Int)] 3) none
          have M1 := hide (show FwM wE (wr.alloc (.cells #[.int .i64 (t : Int)] 3)) (fewN (cS d) (eS d r) (4 * n + t)) from Mem2.keep hM.out ga)
          have ct := (cell_of_heap (heap_new wr (.cells #[.int .i64 (t : Int)] 3)) 0).trans (show (#[Value.int .i64 (t : Int)] : Array Value)[0]? = some (.int .i64 (t : Int)) from rfl)
          have BB := hide (BE.out _ M1.out.2.2 _ (GD.out (4 * n + t)).1 (GD.out (4 * n + t)).2 t ht4 (wE.heap.size + 1) wr.heap.size M1.out.2.1 ct)
          have cd := CD.out _ M1.out.2.2
          have EN := STEP.out (4 * n + t)
          rw [show (4 * n + t) % 4 = t by omega] at EN
          rw [← EN] at BB
          have L1 := hide (GD.out (4 * n + t)).1
          have L2 := hide (GD.out (4 * n + t + 1)).1
          clear EN ct hM BE CD GD STEP ga
          generalize fewN (cS d) (eS d r) (4 * n + t) = X at *
          generalize hY : fewN (cS d) (eS d r) (4 * n + t + 1) = Y at *
          have EY := hide hY
          clear hY
          go_upto_region 7 with fail
          generalize wr.alloc (.cells #[.int .i64 (t : Int)] 3) = W1 at *
          go_wp2_with fail
          refine BB.out.mono ?_
          rintro e w2 ⟨rfl, g2⟩
          have M2 := hide (show FwM wE w2 X from Mem2.keep M1.out g2)
          have BI := hide M2.out.2.1
          have M3 := hide (M2.out.put (x' := Y) (by rw [L1.out, L2.out]))
          clear g2 M1 M2 BB cd
          go_upto_region 8 with (first | refine wpList_store_arr rfl 28 _ _ rfl _ X Y rfl rfl BI.out (by rw [L1.out, L2.out]) (by rw [L1.out]; exact size4) ?_)
          (try simp only [Act.put])
          clear BI
          generalize putArr w2 _ Y = W3 at *
          go_wp2_with fail
          go_roundw
          case rel => exact ⟨t + 1, by go_num, by omega, by rw [show 4 * n + (t + 1) = 4 * n + t + 1 from rfl, EY.out]; exact M3.out⟩
          case measure => simp [intOf]; omega
        · obtain rfl : t = 4 := by omega
          have NM := hM
          rw [show 4 * n + 4 = 4 * (n + 1) by omega] at NM
          clear hM
          rw [show ((4 : Nat) : Int) = 4 from rfl]
          go_wp2_with fail
          go_roundw
          case rel => exact ⟨n + 1, by go_num, by omega, NM.out⟩
          case measure => simp [intOf]; omega
    · obtain rfl : n = 2 := by omega
      have BA := hide hM.out.2.1
      have BZ := hide hM.out.1
      have GG := hide hM.out.2.2
      have HX := hide (GD.out (4 * 2)).1
      clear hM BE CD GD STEP hmf
      rw [show 4 * 2 = 8 from rfl] at *
      generalize fewN (cS d) (eS d r) 8 = X at *
      rw [show ((2 : Nat) : Int) = 2 from rfl]
      go_wp2_with (first | refine wpList_load_arr rfl 28 _ rfl _ rfl _ BA.out _ Try.underlying28 rfl (by rw [HX.out]; exact size4) ?_ | refine wpList_store_arr rfl 28 _ _ rfl _ (zeros 4) X rfl rfl BZ.out (by rw [HX.out, zeros_len]) (by rw [zeros_len]; exact size4) ?_)
      have PU := put_arr (rs' := X) BZ.out (by rw [HX.out, zeros_len])
      have hlv := loadVar_arr PU.1 _ Try.underlying28 rfl (by rw [HX.out]; exact size4)
      have GF := hide (grown_own GG.out PU.2 (Nat.le_refl _))
      refine bodyPost_ret (v := .agg (arrI X)) ?_ rfl ⟨rfl, GF.out⟩
      simp [results, Try.results20, asAddr, Act.put, hlv]
end Go.Proofs.Ytekdgohomaeeeab

/- PulG -/
namespace Go.Proofs.Ytekdgohomaeeeab
open Go.RowKit
set_option linter.unusedVariables false
set_option linter.unusedSimpArgs false
set_option maxHeartbeats 1000000
def SrchE (w : World) (X : List Int) (g en : Int) (e : Ending) (w' : World) : Prop := e = .returned (.tuple #[.agg (arrI X), .int .i64 g, .int .i64 en]) ∧ w.grownBy w' none
theorem seE_size {d r : List Int} (h : ¬ (d.length = 40 ∧ r.length = 40)) (X : List Int) : seE d r = 1 ∧ seX d r X = zeros 4 ∧ seG d r X = 0 := by
  have e : seE d r = 1 := if_neg h
  refine ⟨e, ?_, ?_⟩
  · unfold seX; rw [e]; rfl
  · unfold seG; rw [e]; rfl
theorem seE_no {d r : List Int} (h : d.length = 40 ∧ r.length = 40) (ho : ok40 d = false) (X : List Int) : seE d r = 2 ∧ seX d r X = zeros 4 ∧ seG d r X = 0 := by
  have e : seE d r = 2 := by unfold seE; rw [if_pos h, ho]; rfl
  refine ⟨e, ?_, ?_⟩
  · unfold seX; rw [e]; rfl
  · unfold seG; rw [e]; rfl
theorem seE_yes {d r : List Int} (h : d.length = 40 ∧ r.length = 40) (ho : ok40 d = true) (X : List Int) : seE d r = 0 ∧ seX d r X = X ∧ seG d r X = sgS d X 4 := by
  have e : seE d r = 0 := by unfold seE; rw [if_pos h, ho]; rfl
  refine ⟨e, ?_, ?_⟩
  · unfold seX; rw [e]; rfl
  · unfold seG; rw [e]; rfl
theorem sgS_part (d x : List Int) (m : Nat) : sgS d x (m + 1) = sgS d x m + sgB d x m := rfl
theorem sgS_small (d x : List Int) : ∀ m : Nat, 0 ≤ sgS d x m ∧ sgS d x m < 2 ^ m
  | 0 => by show (0 : Int) ≤ 0 ∧ (0 : Int) < 1; omega
  | m + 1 => by
    have h1 := sgS_small d x m
    have h2 := sgB_bd d x m
    rw [sgS_part, Int.pow_succ]
    omega
theorem or_powF : ∀ m : Fin 4, ∀ s : Fin 8, s.val < 2 ^ m.val → bits BinOp.or IntKind.i64 (s.val : Int) (wrap64 ((2 : Int) ^ m.val)) = (s.val : Int) + 2 ^ m.val := by decide +kernel
theorem or_pow (m : Nat) (hm : m < 4) (s : Int) (h0 : 0 ≤ s) (h1 : s < 2 ^ m) : bits BinOp.or IntKind.i64 s (wrap64 ((2 : Int) ^ m)) = s + 2 ^ m := by
  have hp : (2 : Nat) ^ m ≤ 2 ^ 3 := Nat.pow_le_pow_right (by omega) (by omega)
  have e : ((2 ^ m : Nat) : Int) = (2 : Int) ^ m := by simp
  have h2 : s.toNat < 2 ^ m := by omega
  have := or_powF ⟨m, hm⟩ ⟨s.toNat, by omega⟩ h2
  simp only at this
  rw [show ((s.toNat : Nat) : Int) = s by omega] at this
  exact this
set_option maxRecDepth 100000 in
theorem pulSearch_size (vd vr : Value) (d r : List Int) (w : World) (hd : Ints w vd d) (hr : Ints w vr r) (fv : Value) (h : ¬ (d.length = 40 ∧ r.length = 40)) (hl : d.length ≤ 1000000000000000000) (hl2 : r.length ≤ 1000000000000000000) :
    Calls Try.prog 19 #[vd, vr, fv] w (SrchE w (zeros 4) 0 1) := by
  have hz4 := zero_arr zArr4
  have hbd := build4
  have BZ := hide (Blk.new w 28 (zeros 4))
  have GG := hide (grown_alloc w (.cells (arrI (zeros 4)) 28) none)
  obtain ⟨ad, cp, rfl, _, _⟩ := hd
  obtain ⟨ar, cr, rfl, _, _⟩ := hr
  generalize d.length = nd at *
  generalize r.length = nr at *
  by_cases h1 : nd = 40
  · have h2 : ¬ nr = 40 := fun e => h ⟨h1, e⟩
    have b2 : ((nr : Int) != 40) = true := by simp; omega
    subst h1
    clear h h2
    go_enter Try.func19, Try.ntmps19
    go_upto_region 1 with fail
    generalize w.alloc (.cells (arrI (zeros 4)) 28) = W1 at *
    go_wp2_with (first | refine wpList_store_arr rfl 28 _ _ rfl _ (zeros 4) (zeros 4) rfl rfl BZ.out rfl (by rw [zeros_len]; exact size4) ?_)
    have PU := put_arr (rs' := zeros 4) BZ.out rfl
    have hlv := loadVar_arr PU.1 _ Try.underlying28 rfl (by rw [zeros_len]; exact size4)
    have GF := hide (grown_own GG.out PU.2 (Nat.le_refl _))
    refine bodyPost_ret (v := .tuple #[.agg (arrI (zeros 4)), .int .i64 0, .int .i64 1]) ?_ rfl ⟨rfl, GF.out⟩
    simp [results, Try.results19, asAddr, Act.put, hlv]
  · have b1 : ((nd : Int) != 40) = true := by simp; omega
    clear h h1
    go_enter Try.func19, Try.ntmps19
    go_upto_region 1 with fail
    generalize w.alloc (.cells (arrI (zeros 4)) 28) = W1 at *
    go_wp2_with (first | refine wpList_store_arr rfl 28 _ _ rfl _ (zeros 4) (zeros 4) rfl rfl BZ.out rfl (by rw [zeros_len]; exact size4) ?_)
    have PU := put_arr (rs' := zeros 4) BZ.out rfl
    have hlv := loadVar_arr PU.1 _ Try.underlying28 rfl (by rw [zeros_len]; exact size4)
    have GF := hide (grown_own GG.out PU.2 (Nat.le_refl _))
    refine bodyPost_ret (v := .tuple #[.agg (arrI (zeros 4)), .int .i64 0, .int .i64 1]) ?_ rfl ⟨rfl, GF.out⟩
    simp [results, Try.results19, asAddr, Act.put, hlv]
set_option maxRecDepth 100000 in
theorem pulSearch_right (vd vr : Value) (d r : List Int) (w : World) (hd : Ints w vd d) (hr : Ints w vr r) (nF : Nat) (capsF : Array Value) (hen : ∀ args u, (callFunc nF args).run Try.prog u = .ok (.enter nF args) u) (X : List Int) (hX : X.length = 4) (gX : goodX X = true) (HF : ok40 d = true → Finds w nF capsF r X) (h1 : d.length = 40) (h2 : r.length = 40) :
    Calls Try.prog 19 #[vd, vr, .func (.func nF) #[] capsF] w (SrchE w (seX d r X) (seG d r X) (seE d r)) := by
  have hz4 := zero_arr zArr4
  have hbd := build4
  have BZ := hide (Blk.new w 28 (zeros 4))
  have GG := hide (grown_alloc w (.cells (arrI (zeros 4)) 28) none)
  have NO := hide (fun i (hi : i < 40) (hb : ¬ (-1099511627776 ≤ nth d i ∧ nth d i ≤ 1099511627776)) => seE_no ⟨h1, h2⟩ (by
    rcases ho : ok40 d with _ | _
    · rfl
    · exact absurd ((ok40_iff d).1 ho i (by omega)) hb) X)
  have YES := hide (fun (hh : ∀ i, i < 40 → -1099511627776 ≤ nth d i ∧ nth d i ≤ 1099511627776) => (show ok40 d = true from (ok40_iff d).2 (fun i hi => hh i (by omega))))
  have SY := hide (fun ho => seE_yes ⟨h1, h2⟩ ho X)
  have DV := hide (fun wr (g : w.grownBy wr none) => Ints_keep hd g)
  have EN := hide (fun wr (g : w.grownBy wr none) => pulEnergies_any vr r wr (Ints_keep hr g) h2)
  have HFF := hide HF
  have HGX := hide gX
  have HX := hide hX
  obtain ⟨ad, cp, rfl, _, _⟩ := hd
  obtain ⟨ar, cr, rfl, _, _⟩ := hr
  have HDL := hide h1
  rw [h2] at EN
  rw [h1, h2]
  clear h1 h2 HF gX hX
  have FNO := hide (fun i (hi : i < 40) (hb : ¬ (-1099511627776 ≤ nth d i ∧ nth d i ≤ 1099511627776)) w' (g : w.grownBy w' none) => (show SrchE w (seX d r X) (seG d r X) (seE d r) (.returned (.tuple #[.agg (arrI (zeros 4)), .int .i64 0, .int .i64 2])) w' from by
    obtain ⟨e1, e2, e3⟩ := NO.out i hi hb
    rw [e1, e2, e3]
    exact ⟨rfl, g⟩))
  have FYES := hide (fun (ho : ok40 d = true) w' (g : w.grownBy w' none) => (show SrchE w (seX d r X) (seG d r X) (seE d r) (.returned (.tuple #[.agg (arrI X), .int .i64 (sgS d X 4), .int .i64 0])) w' from by
    obtain ⟨e1, e2, e3⟩ := SY.out ho
    rw [e1, e2, e3]
    exact ⟨rfl, g⟩))
  clear NO SY
  generalize SrchE w (seX d r X) (seG d r X) (seE d r) = T at *
  go_enter Try.func19, Try.ntmps19
  go_upto_region 1 with fail
  generalize w.alloc (.cells (arrI (zeros 4)) 28) = W1 at *
  go_wp2_with fail
  go_loop [26] (fun i => ∃ k : Nat, i = .int .i64 k ∧ k ≤ 40 ∧ Hid (∀ i, i < k → -1099511627776 ≤ nth d i ∧ nth d i ≤ 1099511627776)) (fun i => 40 - (intOf i).toNat)
  case atStart => exact ⟨0, rfl, Nat.zero_le _, fun i hi => by omega⟩
  case round =>
    obtain ⟨k, rfl, hk, hG⟩ := hrel
    by_cases hkl : k < 40
    · obtain ⟨ad', c', e', h1, h2⟩ := DV.out W1 GG.out
      simp only [Value.slice.injEq] at e'
      obtain ⟨rfl, e2, rfl⟩ := e'
      obtain ⟨a, rfl, h3⟩ := h2 (by rw [HDL.out]; omega)
      have hck := h3 k (by rw [HDL.out]; omega)
      have NK := hide (FNO.out k hkl)
      have GK := hide (fun (hh : -1099511627776 ≤ nth d k ∧ nth d k ≤ 1099511627776) => (show ∀ i, i < k + 1 → -1099511627776 ≤ nth d i ∧ nth d i ≤ 1099511627776 from fun i hi => by
        rcases Nat.lt_or_ge i k with g | g
        · exact hG.out i g
        · obtain rfl : i = k := by omega
          exact hh))
      clear e2 h1 h2 h3 FNO FYES YES hG HFF EN DV
      generalize nth d k = z at *
      have kl1 : (k : Int) < 40 := by omega
      have ST := hide (pulWithin_any z (-1099511627776) 1099511627776 W1)
      by_cases hz : -1099511627776 ≤ z ∧ z ≤ 1099511627776
      · have F := hide (GK.out hz)
        rw [decide_eq_true hz] at ST
        clear NK GK hz
        go_wp2_with fail
        refine ST.out.mono ?_
        rintro e w1 ⟨rfl, rfl⟩
        clear ST
        go_wp2_with fail
        go_round
        case rel => exact ⟨k + 1, by go_num, by omega, F.out⟩
        case measure => simp [intOf]; omega
      · rw [decide_eq_false hz] at ST
        have PU := put_arr (rs' := zeros 4) BZ.out rfl
        have F := hide (NK.out hz _ (grown_own GG.out PU.2 (Nat.le_refl _)))
        clear NK GK hz
        go_wp2_with fail
        refine ST.out.mono ?_
        rintro e w1 ⟨rfl, rfl⟩
        clear ST
        have hlv := hide (loadVar_arr PU.1 _ Try.underlying28 rfl (by rw [zeros_len]; exact size4))
        clear PU
        go_wp2_with (first | refine wpList_store_arr rfl 28 _ _ rfl _ (zeros 4) (zeros 4) rfl rfl BZ.out rfl (by rw [zeros_len]; exact size4) ?_)
        (try simp only [Exit.inBlock, Exit.then])
        refine bodyPost_ret (v := .tuple #[.agg (arrI (zeros 4)), .int .i64 0, .int .i64 2]) ?_ rfl F.out
        simp [results, Try.results19, asAddr, Act.put, hlv.out]
    · obtain rfl : k = 40 := by omega
      have ho := YES.out hG.out
      have HFN := hide (HFF.out ho)
      have FY := hide (FYES.out ho)
      clear YES FYES HFF FNO hG ho
      have E1 := hide (EN.out W1 GG.out)
      clear EN
      rw [show ((40 : Nat) : Int) = 40 from rfl]
      go_wp2_with fail
      refine E1.out.mono ?_
      rintro e w2 ⟨B, rfl, b2, _, g2⟩
      have FN := hide (HFN.out w2 B (grown_none GG.out g2) b2)
      have GG2 := hide (grown_none GG.out g2)
      have BZ2 := hide (BZ.out.keep g2)
      clear E1 HFN b2 g2 GG BZ
      go_wp2_with fail
      refine FN.out.mono ?_
      rintro e w3 ⟨rfl, g3⟩
      have FA := fresh_arr w3 28 4 X HX.out
      have BF := hide FA.1
      have BX := hide FA.2.1
      have BZ3 := hide ((BZ2.out.keep g3).keep FA.2.2)
      have GG3 := hide (grown_none (grown_none GG2.out g3) FA.2.2)
      clear FN g3 FA BZ2 GG2
      go_upto_region 11 with (first | refine wpList_store_arr rfl 28 _ _ rfl _ (zeros 4) X rfl rfl BF.out (by rw [HX.out, zeros_len]) (by rw [zeros_len]; exact size4) ?_)
      (try simp only [Act.put])
      clear BF hz4 hbd
      generalize putArr (w3.alloc _) w3.heap.size X = W4 at *
      generalize w3.heap.size = bX at *
      go_wp2_with (first | refine wpList_load_arr rfl 28 _ rfl _ rfl _ BX.out _ Try.underlying28 rfl (by rw [HX.out]; exact size4) ?_)
      go_loop [12, 40] (fun s i => ∃ m : Nat, i = .int .i64 m ∧ m ≤ 4 ∧ s = .int .i64 (sgS d X m)) (fun _ i => 4 - (intOf i).toNat)
      case atStart => exact ⟨0, rfl, Nat.zero_le _, rfl⟩
      case round =>
        obtain ⟨m, rfl, hm, rfl⟩ := hrel
        by_cases hm4 : m < 4
        · have hix := index_arr X Try.underlying28 m (by rw [HX.out]; omega) HX.out
          have hPL := psN_lt HGX.out HX.out m hm4
          obtain ⟨g1, g2⟩ := (goodX_iff X).1 HGX.out m (by rw [HX.out]; omega)
          have AT := hide (pulAt_any (m : Int) (nth X m) (by omega) (by omega) g1 g2 W4)
          rw [show (m : Int) + 4 * nth X m = ((psN X m : Nat) : Int) by unfold psN; omega] at AT
          obtain ⟨ad', c', e', h1, h2⟩ := DV.out W4 GG3.out
          simp only [Value.slice.injEq] at e'
          obtain ⟨rfl, e2, rfl⟩ := e'
          obtain ⟨a, rfl, h3⟩ := h2 (by rw [HDL.out]; omega)
          have cz := h3 (psN X m) (by rw [HDL.out]; omega)
          have EB := hide (show sgS d X (m + 1) = sgS d X m + (if nth d (psN X m) < 0 then 0 else 2 ^ m) from rfl)
          obtain ⟨s1, s2⟩ := sgS_small d X m
          have SI := hide (pulSign_any (nth d (psN X m)) W4)
          have i1 : (m : Int) < 4 := by omega
          have i2 : ((psN X m : Nat) : Int) < 40 := by omega
          clear e2 h1 h2 h3 DV FY BZ3 GG3 BX
          generalize nth d (psN X m) = z at *
          generalize psN X m = P at *
          generalize nth X m = pl at *
          generalize hs' : sgS d X (m + 1) = s' at *
          have HS' := hide hs'
          clear hs'
          generalize sgS d X m = s at *
          go_wp2_with fail
          refine AT.out.mono ?_
          rintro e wy ⟨rfl, rfl⟩
          clear AT
          go_wp2_with fail
          refine SI.out.mono ?_
          rintro e wz ⟨rfl, rfl⟩
          clear SI
          rcases sg_cases z with ⟨hz, es⟩ | ⟨hz, es⟩
          · rw [es]
            have ES := hide (show s' = s by rw [EB.out, if_pos hz]; omega)
            clear EB es
            go_wp2_with fail
            go_round
            case rel => exact ⟨m + 1, by go_num, by omega, by rw [HS'.out, ES.out]⟩
            case measure => simp [intOf]; omega
          · rw [es]
            have ES := hide (show s' = s + 2 ^ m by rw [EB.out, if_neg (by omega)])
            clear EB es
            have OP := hide (or_pow m hm4 s s1 s2)
            go_wp2_with fail
            go_round
            case rel => exact ⟨m + 1, by go_num, by omega, by rw [HS'.out, ES.out, OP.out]⟩
            case measure => simp [intOf]; omega
        · obtain rfl : m = 4 := by omega
          have PU := put_arr (rs' := X) BZ3.out (by rw [HX.out, zeros_len])
          have hlv := hide (loadVar_arr PU.1 _ Try.underlying28 rfl (by rw [HX.out]; exact size4))
          have F := hide (FY.out _ (grown_own GG3.out PU.2 (Nat.le_refl _)))
          clear PU FY
          generalize sgS d X 4 = s at *
          rw [show ((4 : Nat) : Int) = 4 from rfl]
          go_wp2_with (first | refine wpList_load_arr rfl 28 _ rfl _ rfl _ BX.out _ Try.underlying28 rfl (by rw [HX.out]; exact size4) ?_ | refine wpList_store_arr rfl 28 _ _ rfl _ (zeros 4) X rfl rfl BZ3.out (by rw [HX.out, zeros_len]) (by rw [zeros_len]; exact size4) ?_)
          refine bodyPost_ret (v := .tuple #[.agg (arrI X), .int .i64 s, .int .i64 0]) ?_ rfl F.out
          simp [results, Try.results19, asAddr, Act.put, hlv.out]
end Go.Proofs.Ytekdgohomaeeeab

/- PulH -/
namespace Go.Proofs.Ytekdgohomaeeeab
open Go.RowKit
set_option linter.unusedVariables false
set_option linter.unusedSimpArgs false
set_option maxHeartbeats 1000000
theorem seX_len (d r X : List Int) (h : X.length = 4) : (seX d r X).length = 4 := by unfold seX; split; exact h; rfl
theorem fewX_good (d r : List Int) : (fewX d r).length = 4 ∧ goodX (fewX d r) = true := fewN_good (cS d) (eS d r) 8
theorem pulSearch_any (vd vr : Value) (d r : List Int) (w : World) (hd : Ints w vd d) (hr : Ints w vr r) (nF : Nat) (capsF : Array Value) (hen : ∀ args u, (callFunc nF args).run Try.prog u = .ok (.enter nF args) u) (X : List Int) (hX : X.length = 4) (gX : goodX X = true) (HF : d.length = 40 → Finds w nF capsF r X) (hl : d.length ≤ 1000000000000000000) (hl2 : r.length ≤ 1000000000000000000) :
    Calls Try.prog 19 #[vd, vr, .func (.func nF) #[] capsF] w (SrchE w (seX d r X) (seG d r X) (seE d r)) := by
  by_cases h : d.length = 40 ∧ r.length = 40
  · exact pulSearch_right vd vr d r w hd hr nF capsF hen X hX gX (fun _ => HF h.1) h.1 h.2
  · obtain ⟨e1, e2, e3⟩ := seE_size h X
    rw [e1, e2, e3]
    exact pulSearch_size vd vr d r w hd hr _ h hl hl2
set_option maxRecDepth 100000 in
theorem pulFew_any (vd vr : Value) (d r : List Int) (w : World) (hd : Ints w vd d) (hr : Ints w vr r) (hl : d.length ≤ 1000000000000000000) (hl2 : r.length ≤ 1000000000000000000) :
    Calls Try.prog 7 #[vd, vr] w (SrchE w (seX d r (fewX d r)) (seG d r (fewX d r)) (seE d r)) := by
  have hmf : ∀ (fn : Fn) (first cap : Array Value) (w : World), (Instr.makeFunc fn first cap).run Try.prog w = .ok (.func fn first cap) w := fun _ _ _ _ => rfl
  have hz4 := zero_arr zArr4
  have g1 := grown_alloc w (.cells #[vd] 22) none
  have h1 := heap_new w (.cells #[vd] 22)
  have g2 := grown_alloc (w.alloc (.cells #[vd] 22)) (.cells (arrI (zeros 4)) 28) none
  have b2 := Blk.new1 w (.cells #[vd] 22) 28 (zeros 4)
  have c1 := (cell_of_heap (heap_grown h1 g2 (by simp)) 0).trans (show (#[vd] : Array Value)[0]? = some vd from rfl)
  have gg := grown_none g1 g2
  have SE := hide (pulSearch_any vd vr d r _ (Ints_keep hd gg) (Ints_keep hr gg) 20 #[.pointer (some ⟨w.heap.size, 0, none⟩)] enters_Few1 (fewX d r) (fewX_good d r).1 (fewX_good d r).2 (fun h => pulFew1_finds _ vd d r w.heap.size (Ints_keep hd gg) h c1) hl hl2)
  have HX := hide (seX_len d r (fewX d r) (fewX_good d r).1)
  have BZ := hide b2
  have GG := hide gg
  obtain ⟨ad, cp, rfl, _, _⟩ := hd
  obtain ⟨ar, cr, rfl, _, _⟩ := hr
  clear g1 g2 h1 b2 gg hl hl2
  generalize seX d r (fewX d r) = X at *
  generalize seG d r (fewX d r) = G at *
  generalize seE d r = en at *
  go_enter Try.func7, Try.ntmps7
  go_upto_region 1 with fail
  generalize (w.alloc _).alloc _ = W1 at *
  clear hz4
  go_wp2_with fail
  refine SE.out.mono ?_
  rintro e w2 ⟨rfl, g2⟩
  have B2 := hide (BZ.out.keep g2)
  have G2 := hide (grown_none GG.out g2)
  clear g2 SE c1 BZ GG
  go_wp2_with (first | refine wpList_store_arr rfl 28 _ _ rfl _ (zeros 4) X rfl rfl B2.out (by rw [HX.out, zeros_len]) (by rw [zeros_len]; exact size4) ?_)
  have PU := put_arr (rs' := X) B2.out (by rw [HX.out, zeros_len])
  have hlv := loadVar_arr PU.1 _ Try.underlying28 rfl (by rw [HX.out]; exact size4)
  have GF := hide (grown_own G2.out PU.2 (by omega))
  refine bodyPost_ret (v := .tuple #[.agg (arrI X), .int .i64 G, .int .i64 en]) ?_ rfl ⟨rfl, GF.out⟩
  simp [results, Try.results7, asAddr, Act.put, hlv]
end Go.Proofs.Ytekdgohomaeeeab

/- PulSc -/
namespace Go.Proofs.Ytekdgohomaeeeab
open Go.RowKit
set_option linter.unusedVariables false
set_option linter.unusedSimpArgs false
set_option maxHeartbeats 1000000
def ScoE (w : World) (c e en : Int) (x : Ending) (w' : World) : Prop := x = .returned (.tuple #[.int .i64 c, .int .i64 e, .int .i64 en]) ∧ w.grownBy w' none
theorem soE_size {d r : List Int} (h : ¬ (d.length = 40 ∧ r.length = 40)) (x : List Int) : soE d r x = 1 ∧ soC d r x = 0 ∧ soV d r x = 0 := by
  have e : soE d r x = 1 := if_neg h
  refine ⟨e, ?_, ?_⟩
  · unfold soC; rw [e]; rfl
  · unfold soV; rw [e]; rfl
theorem soE_no {d r x : List Int} (h : d.length = 40 ∧ r.length = 40) (ho : goodX x = false) : soE d r x = 2 ∧ soC d r x = 0 ∧ soV d r x = 0 := by
  have e : soE d r x = 2 := by unfold soE; rw [if_pos h, ho]; rfl
  refine ⟨e, ?_, ?_⟩
  · unfold soC; rw [e]; rfl
  · unfold soV; rw [e]; rfl
theorem soE_yes {d r x : List Int} (h : d.length = 40 ∧ r.length = 40) (ho : goodX x = true) : soE d r x = 0 ∧ soC d r x = cS d x ∧ soV d r x = eS d r x := by
  have e : soE d r x = 0 := by unfold soE; rw [if_pos h, ho]; rfl
  refine ⟨e, ?_, ?_⟩
  · unfold soC; rw [e]; rfl
  · unfold soV; rw [e]; rfl
set_option maxRecDepth 100000 in
theorem pulScore_size (vd vr : Value) (d r x : List Int) (w : World) (hd : Ints w vd d) (hr : Ints w vr r) (h : ¬ (d.length = 40 ∧ r.length = 40)) (hl : d.length ≤ 1000000000000000000) (hl2 : r.length ≤ 1000000000000000000) :
    Calls Try.prog 9 #[vd, vr, .agg (arrI x)] w (ScoE w 0 0 1) := by
  have GG := hide (grown_alloc w (.cells (arrI x) 28) none)
  obtain ⟨ad, cp, rfl, _, _⟩ := hd
  obtain ⟨ar, cr, rfl, _, _⟩ := hr
  generalize d.length = nd at *
  generalize r.length = nr at *
  by_cases h1 : nd = 40
  · have h2 : ¬ nr = 40 := fun e => h ⟨h1, e⟩
    have b2 : ((nr : Int) != 40) = true := by simp; omega
    subst h1
    clear h h2
    go_enter Try.func9, Try.ntmps9
    go_wp2_with fail
    refine bodyPost_ret (v := .tuple #[.int .i64 0, .int .i64 0, .int .i64 1]) ?_ rfl ⟨rfl, GG.out⟩
    simp [results, Try.results9, asAddr, Act.put]
  · have b1 : ((nd : Int) != 40) = true := by simp; omega
    clear h h1
    go_enter Try.func9, Try.ntmps9
    go_wp2_with fail
    refine bodyPost_ret (v := .tuple #[.int .i64 0, .int .i64 0, .int .i64 1]) ?_ rfl ⟨rfl, GG.out⟩
    simp [results, Try.results9, asAddr, Act.put]
set_option maxRecDepth 100000 in
theorem pulScore_any (vd vr : Value) (d r x : List Int) (w : World) (hd : Ints w vd d) (hr : Ints w vr r) (hx : x.length = 4) (hl : d.length ≤ 1000000000000000000) (hl2 : r.length ≤ 1000000000000000000) :
    Calls Try.prog 9 #[vd, vr, .agg (arrI x)] w (ScoE w (soC d r x) (soV d r x) (soE d r x)) := by
  by_cases h : d.length = 40 ∧ r.length = 40
  · have B0 := hide (Blk.new w 28 x)
    have G0 := hide (grown_alloc w (.cells (arrI x) 28) none)
    have PC := hide (pulPlaces_any x hx)
    rcases hg : goodX x with _ | _
    · obtain ⟨e1, e2, e3⟩ := soE_no h hg
      rw [e1, e2, e3]
      rw [hg] at PC
      obtain ⟨ad, cp, rfl, _, _⟩ := hd
      obtain ⟨ar, cr, rfl, _, _⟩ := hr
      rw [h.1, h.2]
      clear e1 e2 e3 h hg hl hl2
      go_enter Try.func9, Try.ntmps9
      go_upto_region 1 with fail
      generalize w.alloc _ = W1 at *
      go_wp2_with (first | refine wpList_load_arr rfl 28 _ rfl _ rfl _ B0.out _ Try.underlying28 rfl (by rw [hx]; exact size4) ?_)
      refine (PC.out W1).mono ?_
      rintro e w2 ⟨rfl, g2⟩
      have GF := hide (grown_none G0.out g2)
      clear g2 PC
      go_wp2_with fail
      refine bodyPost_ret (v := .tuple #[.int .i64 0, .int .i64 0, .int .i64 2]) ?_ rfl ⟨rfl, GF.out⟩
      simp [results, Try.results9, asAddr, Act.put]
    · obtain ⟨e1, e2, e3⟩ := soE_yes h hg
      rw [e1, e2, e3]
      rw [hg] at PC
      have EN0 := hide (fun W (g : w.grownBy W none) => pulEnergies_any vr r W (Ints_keep hr g) h.2)
      have SC0 := hide (fun W (B : Nat) (g : w.grownBy W none) (b : Blk W B 64 (tbl r)) => pulScored_any vd d r x B W (Ints_keep hd g) h.1 b hx hg)
      have CC := cho_c x hx (cS d x) (eS d r x) 0
      have HX := hide CC.2.2.2.2
      have X4 := hide CC.2.2.1
      have X5 := hide CC.2.2.2.1
      obtain ⟨ad, cp, rfl, _, _⟩ := hd
      obtain ⟨ar, cr, rfl, _, _⟩ := hr
      rw [h.2] at EN0
      rw [h.1] at SC0
      rw [h.1, h.2]
      clear e1 e2 e3 h hg hl hl2 CC
      generalize x ++ [cS d x, eS d r x] = X at *
      generalize cS d x = C at *
      generalize eS d r x = E at *
      have hz := zero_arr zCho
      go_enter Try.func9, Try.ntmps9
      go_upto_region 1 with fail
      generalize w.alloc _ = W1 at *
      go_wp2_with (first | refine wpList_load_arr rfl 28 _ rfl _ rfl _ B0.out _ Try.underlying28 rfl (by rw [hx]; exact size4) ?_)
      refine (PC.out W1).mono ?_
      rintro e w2 ⟨rfl, g2⟩
      have GP := hide (grown_none G0.out g2)
      have BX := hide (B0.out.keep g2)
      have EN := hide (fun W (g : w2.grownBy W none) => EN0.out W (grown_none GP.out g))
      have SC := hide (fun W (B : Nat) (g : w2.grownBy W none) b => SC0.out W B (grown_none GP.out g) b)
      clear g2 PC G0 B0 EN0 SC0
      go_wp2_with fail
      refine wp_region_held_drew (S := GrownW w2) (by kernel_rfl) (gw_start _) (fun hHeld => ?_)
      refine wpAnyH_take (i := 0) (v := ?vsc1) rfl (by kernel_rfl) (by kernel_rfl) (by kernel_rfl) (fun _ _ _ h => h) (Or.inl ⟨by rfl, ?ysc1⟩) hHeld ?rsc1
      case ysc1 => (intro w' hSw; go_simp; (try with_reducible rfl))
      (try simp only [Act.put, sL])
      refine wpAnyH_take (i := 1) (v := ?vsc2) rfl (by kernel_rfl) (by kernel_rfl) (by kernel_rfl) (fun _ _ _ h => h) (Or.inl ⟨by rfl, ?ysc2⟩) hHeld ?rsc2
      case ysc2 => (intro w' hSw; go_simp; (try with_reducible rfl))
      (try simp only [Act.put, sL])
      refine wpAnyH_take (i := 3) (v := .agg (arrI x)) rfl (by kernel_rfl) (by kernel_rfl) (by kernel_rfl) (fun _ _ _ h => h) (Or.inl ⟨by rfl, ?ysc3⟩) hHeld ?rsc3
      case ysc3 => (intro w' hSw; exact yields_load_arr rfl rfl (BX.out.keep hSw) _ Try.underlying28 rfl (by rw [hx]; exact size4))
      (try simp only [Act.put, sL])
      refine wpAnyH_ready (rs := [2, 5]) (by kernel_rfl) (by simp) (AllReadyH.cons rfl (fun K hK => ?gsc4) (AllReadyH.cons rfl (fun K hK => ?gsc5) AllReadyH.nil))
      case gsc4 =>
        (try simp only [Act.put, sL])
        go_simp
        refine (EN.out _ hHeld).mono ?_
        rintro e wsc6 ⟨B, rfl, bsc6, _, gsc6⟩
        have Gsc6 := hide gsc6
        have BT := hide (bsc6)
        clear gsc6 bsc6
        go_wp2_with fail
        refine hK.out _ _ (gw_trans hHeld Gsc6.out) (fun hHeld => ?_)
        clear hK
        (try simp only [Act.put, sL])
        refine wpAnyH_ready (rs := [4, 5]) (by kernel_rfl) (by simp) (AllReadyH.cons rfl (fun K hK => ?gsc7) (AllReadyH.cons rfl (fun K hK => ?gsc8) AllReadyH.nil))
        case gsc7 =>
          (try simp only [Act.put, sL])
          go_simp
          refine (SC.out _ B hHeld BT.out).mono ?_
          rintro e wsc9 ⟨rfl, gsc9⟩
          have Gsc9 := hide gsc9
          clear gsc9
          go_wp2_with fail
          refine hK.out _ _ (gw_trans hHeld Gsc9.out) (fun hHeld => ?_)
          clear hK
          have BT := hide (BT.out.keep Gsc9.out)
          (try simp only [Act.put, sL])
          refine wpAnyH_ready (rs := [5]) (by kernel_rfl) (by simp) (AllReadyH.cons rfl (fun K hK => ?_) AllReadyH.nil)
          (try simp only [Act.put, sL])
          go_simp
          go_wp2_with fail
          have HB := hide (show w2.heap.size ≤ wsc9.heap.size from by first | exact Nat.le_refl _ | exact World.grownBy.size hHeld)
          refine hK.out _ _ (gw_alloc hHeld (.cells (arrI (zeros 6)) 58)) (fun hHeld => ?_)
          clear hK
          have HZ := hide (show Blk (wsc9.alloc (.cells (arrI (zeros 6)) 58)) wsc9.heap.size 58 (zeros 6) from Blk.new wsc9 58 (zeros 6))
          have BT := hide (BT.out.keep (grown_alloc wsc9 (.cells (arrI (zeros 6)) 58) none))
          generalize wsc9.alloc (.cells (arrI (zeros 6)) 58) = wzsc10 at *
          (try simp only [Act.put, sL])
          refine wpAnyH_ready (rs := [6]) (by kernel_rfl) (by simp) (AllReadyH.cons rfl (fun K hK => ?_) AllReadyH.nil)
          (try simp only [Act.put, sL])
          refine step_store_arr rfl 58 _ _ rfl (wsc9.heap.size) (zeros 6) X rfl rfl HZ.out (by rw [HX.out, zeros_len]) (by rw [zeros_len]; exact sCho) ?_
          have PU := put_arr (rs' := X) HZ.out (by rw [HX.out, zeros_len])
          refine hK.out _ _ (gw_own hHeld PU.2 HB.out) (fun hHeld => ?_)
          clear hK
          have BT := hide (BT.out)
          (try simp only [Act.put, sL])
          refine wpAnyH_done (by kernel_rfl) ?_ _
          go_wp2_with fail
          have q4 := PU.1.cell 4 (by rw [HX.out]; omega)
          have q5 := PU.1.cell 5 (by rw [HX.out]; omega)
          rw [X4.out] at q4
          rw [X5.out] at q5
          have GF := hide (grown_none GP.out hHeld)
          clear PU hHeld HZ
          generalize putArr _ _ X = W5 at *
          go_quiet (fail)
          go_wp2_with fail
          refine bodyPost_ret (v := .tuple #[.int .i64 C, .int .i64 E, .int .i64 0]) ?_ rfl ⟨rfl, grown_none GF.out (grown_drewN' _ _ none)⟩
          simp [results, Try.results9, asAddr, Act.put]
        case gsc8 =>
          (try simp only [Act.put, sL])
          go_simp
          go_wp2_with fail
          have HB := hide (show w2.heap.size ≤ wsc6.heap.size from by first | exact Nat.le_refl _ | exact World.grownBy.size hHeld)
          refine hK.out _ _ (gw_alloc hHeld (.cells (arrI (zeros 6)) 58)) (fun hHeld => ?_)
          clear hK
          have HZ := hide (show Blk (wsc6.alloc (.cells (arrI (zeros 6)) 58)) wsc6.heap.size 58 (zeros 6) from Blk.new wsc6 58 (zeros 6))
          have BT := hide (BT.out.keep (grown_alloc wsc6 (.cells (arrI (zeros 6)) 58) none))
          generalize wsc6.alloc (.cells (arrI (zeros 6)) 58) = wzsc12 at *
          (try simp only [Act.put, sL])
          refine wpAnyH_ready (rs := [4]) (by kernel_rfl) (by simp) (AllReadyH.cons rfl (fun K hK => ?_) AllReadyH.nil)
          (try simp only [Act.put, sL])
          go_simp
          refine (SC.out _ B hHeld BT.out).mono ?_
          rintro e wsc13 ⟨rfl, gsc13⟩
          have Gsc13 := hide gsc13
          clear gsc13
          go_wp2_with fail
          refine hK.out _ _ (gw_trans hHeld Gsc13.out) (fun hHeld => ?_)
          clear hK
          have HZ := hide (HZ.out.keep Gsc13.out)
          have BT := hide (BT.out.keep Gsc13.out)
          (try simp only [Act.put, sL])
          refine wpAnyH_ready (rs := [6]) (by kernel_rfl) (by simp) (AllReadyH.cons rfl (fun K hK => ?_) AllReadyH.nil)
          (try simp only [Act.put, sL])
          refine step_store_arr rfl 58 _ _ rfl (wsc6.heap.size) (zeros 6) X rfl rfl HZ.out (by rw [HX.out, zeros_len]) (by rw [zeros_len]; exact sCho) ?_
          have PU := put_arr (rs' := X) HZ.out (by rw [HX.out, zeros_len])
          refine hK.out _ _ (gw_own hHeld PU.2 HB.out) (fun hHeld => ?_)
          clear hK
          have BT := hide (BT.out)
          (try simp only [Act.put, sL])
          refine wpAnyH_done (by kernel_rfl) ?_ _
          go_wp2_with fail
          have q4 := PU.1.cell 4 (by rw [HX.out]; omega)
          have q5 := PU.1.cell 5 (by rw [HX.out]; omega)
          rw [X4.out] at q4
          rw [X5.out] at q5
          have GF := hide (grown_none GP.out hHeld)
          clear PU hHeld HZ
          generalize putArr _ _ X = W5 at *
          go_quiet (fail)
          go_wp2_with fail
          refine bodyPost_ret (v := .tuple #[.int .i64 C, .int .i64 E, .int .i64 0]) ?_ rfl ⟨rfl, grown_none GF.out (grown_drewN' _ _ none)⟩
          simp [results, Try.results9, asAddr, Act.put]
      case gsc5 =>
        (try simp only [Act.put, sL])
        go_simp
        go_wp2_with fail
        have HB := hide (show w2.heap.size ≤ w2.heap.size from by first | exact Nat.le_refl _ | exact World.grownBy.size hHeld)
        refine hK.out _ _ (gw_alloc hHeld (.cells (arrI (zeros 6)) 58)) (fun hHeld => ?_)
        clear hK
        have HZ := hide (show Blk ((w2.alloc (.cells (arrI (zeros 6)) 58)).drew) w2.heap.size 58 (zeros 6) from Blk.new w2.drew 58 (zeros 6))
        generalize (w2.alloc (.cells (arrI (zeros 6)) 58)).drew = wzsc15 at *
        (try simp only [Act.put, sL])
        refine wpAnyH_ready (rs := [2]) (by kernel_rfl) (by simp) (AllReadyH.cons rfl (fun K hK => ?_) AllReadyH.nil)
        (try simp only [Act.put, sL])
        go_simp
        refine (EN.out _ hHeld).mono ?_
        rintro e wsc16 ⟨B, rfl, bsc16, _, gsc16⟩
        have Gsc16 := hide gsc16
        have BT := hide (bsc16)
        clear gsc16 bsc16
        go_wp2_with fail
        refine hK.out _ _ (gw_trans hHeld Gsc16.out) (fun hHeld => ?_)
        clear hK
        have HZ := hide (HZ.out.keep Gsc16.out)
        (try simp only [Act.put, sL])
        refine wpAnyH_ready (rs := [4]) (by kernel_rfl) (by simp) (AllReadyH.cons rfl (fun K hK => ?_) AllReadyH.nil)
        (try simp only [Act.put, sL])
        go_simp
        refine (SC.out _ B hHeld BT.out).mono ?_
        rintro e wsc17 ⟨rfl, gsc17⟩
        have Gsc17 := hide gsc17
        clear gsc17
        go_wp2_with fail
        refine hK.out _ _ (gw_trans hHeld Gsc17.out) (fun hHeld => ?_)
        clear hK
        have HZ := hide (HZ.out.keep Gsc17.out)
        have BT := hide (BT.out.keep Gsc17.out)
        (try simp only [Act.put, sL])
        refine wpAnyH_ready (rs := [6]) (by kernel_rfl) (by simp) (AllReadyH.cons rfl (fun K hK => ?_) AllReadyH.nil)
        (try simp only [Act.put, sL])
        refine step_store_arr rfl 58 _ _ rfl (w2.heap.size) (zeros 6) X rfl rfl HZ.out (by rw [HX.out, zeros_len]) (by rw [zeros_len]; exact sCho) ?_
        have PU := put_arr (rs' := X) HZ.out (by rw [HX.out, zeros_len])
        refine hK.out _ _ (gw_own hHeld PU.2 HB.out) (fun hHeld => ?_)
        clear hK
        have BT := hide (BT.out)
        (try simp only [Act.put, sL])
        refine wpAnyH_done (by kernel_rfl) ?_ _
        go_wp2_with fail
        have q4 := PU.1.cell 4 (by rw [HX.out]; omega)
        have q5 := PU.1.cell 5 (by rw [HX.out]; omega)
        rw [X4.out] at q4
        rw [X5.out] at q5
        have GF := hide (grown_none GP.out hHeld)
        clear PU hHeld HZ
        generalize putArr _ _ X = W5 at *
        go_quiet (fail)
        go_wp2_with fail
        refine bodyPost_ret (v := .tuple #[.int .i64 C, .int .i64 E, .int .i64 0]) ?_ rfl ⟨rfl, grown_none GF.out (grown_drewN' _ _ none)⟩
        simp [results, Try.results9, asAddr, Act.put]
  · obtain ⟨e1, e2, e3⟩ := soE_size h x
    rw [e1, e2, e3]
    exact pulScore_size vd vr d r x w hd hr h hl hl2
end Go.Proofs.Ytekdgohomaeeeab

/- PulEn -/
namespace Go.Proofs.Ytekdgohomaeeeab
open Go.RowKit
set_option linter.unusedVariables false
set_option linter.unusedSimpArgs false
set_option maxHeartbeats 1000000
theorem onE_cases (r : List Int) (a b : Int) : (¬ r.length = 40 ∧ onE r a b = 1 ∧ onV r a b = 0) ∨ (r.length = 40 ∧ ¬ ((0 ≤ a ∧ a ≤ 39) ∧ 0 ≤ b ∧ b ≤ 39) ∧ onE r a b = 2 ∧ onV r a b = 0) ∨ (r.length = 40 ∧ ((0 ≤ a ∧ a ≤ 39) ∧ 0 ≤ b ∧ b ≤ 39) ∧ onE r a b = 0 ∧ onV r a b = enN r a.toNat b.toNat) := by
  by_cases h : r.length = 40
  · by_cases h2 : (0 ≤ a ∧ a ≤ 39) ∧ 0 ≤ b ∧ b ≤ 39
    · have e : onE r a b = 0 := by unfold onE; rw [if_pos h, if_pos h2]
      exact .inr (.inr ⟨h, h2, e, by unfold onV; rw [if_pos e]⟩)
    · have e : onE r a b = 2 := by unfold onE; rw [if_pos h, if_neg h2]
      exact .inr (.inl ⟨h, h2, e, by unfold onV; rw [if_neg (by rw [e]; decide)]⟩)
  · have e : onE r a b = 1 := by unfold onE; rw [if_neg h]
    exact .inl ⟨h, e, by unfold onV; rw [if_neg (by rw [e]; decide)]⟩
set_option maxRecDepth 100000 in
theorem pulEnergy_any (vr : Value) (r : List Int) (a b : Int) (w : World) (hr : Ints w vr r) (hl : r.length ≤ 1000000000000000000) :
    Calls Try.prog 8 #[vr, .int .i64 a, .int .i64 b] w (AnsG w (.tuple #[.int .i64 (onV r a b), .int .i64 (onE r a b)])) := by
  have EN := hide (fun (h : r.length = 40) => pulEnergies_any vr r w hr h)
  have WA := hide (pulWithin_any a 0 39 w)
  have WB := hide (pulWithin_any b 0 39 w)
  obtain ⟨ar, cr, rfl, _, _⟩ := hr
  rcases onE_cases r a b with ⟨h, e1, e2⟩ | ⟨h, h2, e1, e2⟩ | ⟨h, h2, e1, e2⟩
  · rw [e1, e2]
    have b1 : ((r.length : Int) != 40) = true := by simp; omega
    clear e1 e2 EN WA WB h
    generalize r.length = nr at *
    go_enter Try.func8, Try.ntmps8
    go_wp2_with fail
    go_ret2
    exact ⟨rfl, grown_refl _ _⟩
  · rw [e1, e2, h]
    clear e1 e2 EN h hl
    by_cases ha : 0 ≤ a ∧ a ≤ 39
    · have hb : ¬ (0 ≤ b ∧ b ≤ 39) := fun x => h2 ⟨ha, x⟩
      rw [decide_eq_true ha] at WA
      rw [decide_eq_false hb] at WB
      clear h2 ha hb
      go_enter Try.func8, Try.ntmps8
      go_wp2_with fail
      refine WA.out.mono ?_
      rintro e w1 ⟨rfl, rfl⟩
      clear WA
      go_wp2_with fail
      refine WB.out.mono ?_
      rintro e w2 ⟨rfl, rfl⟩
      clear WB
      go_wp2_with fail
      go_ret2
      exact ⟨rfl, grown_refl _ _⟩
    · rw [decide_eq_false ha] at WA
      clear h2 ha WB
      go_enter Try.func8, Try.ntmps8
      go_wp2_with fail
      refine WA.out.mono ?_
      rintro e w1 ⟨rfl, rfl⟩
      clear WA
      go_wp2_with fail
      go_ret2
      exact ⟨rfl, grown_refl _ _⟩
  · have E1 := hide (EN.out h)
    rw [e1, e2, h]
    rw [h] at E1
    obtain ⟨⟨a1, a2⟩, b1, b2⟩ := h2
    rw [decide_eq_true ⟨a1, a2⟩] at WA
    rw [decide_eq_true ⟨b1, b2⟩] at WB
    obtain ⟨A, rfl⟩ : ∃ A : Nat, a = (A : Int) := ⟨a.toNat, by omega⟩
    obtain ⟨D, rfl⟩ : ∃ D : Nat, b = (D : Int) := ⟨b.toNat, by omega⟩
    rw [show ((A : Int)).toNat = A from rfl, show ((D : Int)).toNat = D from rfl]
    have TA := hide (tbl_at r A D (by omega) (by omega))
    have LT := hide (tbl_len r)
    clear e1 e2 EN h hl
    have i1 : (A : Int) < 40 := by omega
    have i2 : (D : Int) < 40 := by omega
    go_enter Try.func8, Try.ntmps8
    go_wp2_with fail
    refine WA.out.mono ?_
    rintro e w1 ⟨rfl, rfl⟩
    clear WA
    go_wp2_with fail
    refine WB.out.mono ?_
    rintro e w2 ⟨rfl, rfl⟩
    clear WB
    go_wp2_with fail
    refine E1.out.mono ?_
    rintro e w3 ⟨B, rfl, b3, _, g3⟩
    have ct := b3.cell (A * 40 + D) (by rw [LT.out]; omega)
    rw [TA.out] at ct
    have GF := hide g3
    clear b3 g3 E1 TA
    generalize enN r A D = n at *
    go_wp2_with fail
    go_ret2
    exact ⟨rfl, GF.out⟩
end Go.Proofs.Ytekdgohomaeeeab

/- PitA -/
namespace Go.Proofs.Ytekdgohomaeeeab
open Go.RowKit
set_option linter.unusedVariables false
set_option linter.unusedSimpArgs false
set_option maxHeartbeats 1000000
theorem pitWithin_any (x a b : Int) (w : World) : Calls Try.prog 31 #[.int .i64 x, .int .i64 a, .int .i64 b] w (Ans w (.bool (decide (a ≤ x ∧ x ≤ b)))) := by
  by_cases h1 : a ≤ x
  · by_cases h2 : x ≤ b
    · rw [decide_eq_true (show a ≤ x ∧ x ≤ b from ⟨h1, h2⟩)]
      go_enter Try.func31, Try.ntmps31
      go_wp2_with fail
      go_ret
      exact ⟨rfl, rfl⟩
    · rw [decide_eq_false (show ¬ (a ≤ x ∧ x ≤ b) from fun h => h2 h.2)]
      go_enter Try.func31, Try.ntmps31
      go_wp2_with fail
      go_ret
      exact ⟨rfl, rfl⟩
  · rw [decide_eq_false (show ¬ (a ≤ x ∧ x ≤ b) from fun h => h1 h.1)]
    go_enter Try.func31, Try.ntmps31
    go_wp2_with fail
    go_ret
    exact ⟨rfl, rfl⟩
theorem ownP_any {w : World} {b base : Nat} {rs : List Int} (h : Blk w b 3 rs) (hb : base ≤ b) (hl : rs.length ≤ 35184372088832) : Own base w (.slice (some ⟨b, 0, none⟩) rs.length rs.length) rs :=
  ⟨by simp, .inr ⟨b, rs.length, arrI rs, rfl, hb, h, Nat.le_refl _, by unfold maxLen; omega, by simp [arrI], by simp [arrI, List.take_of_length_le]⟩⟩
theorem slice80 (b J : Nat) (hJ : J ≤ 79) (u : World) : Sem.run Try.prog (Instr.sliceAt 37 (.pointer (some ⟨b, 0, none⟩)) (some (.int .i64 (J : Int))) none none) u = .ok (.slice (some ⟨b, J, none⟩) (80 - J) (80 - J)) u := by
  have e : Try.prog.arrayLen 37 = 80 := by kernel_rfl
  obtain ⟨i0, hi, hz0, hz1, hz2⟩ := info_parts infoI64
  rw [run_sliceAt_array_l (P := Try.prog) u 37 _ (by kernel_rfl) .i64 J (by omega) (by omega), e]
  simp [go_sem, slicedAt]
  omega
theorem Mem2.set2 {w wr : World} {T1 T2 : TypeId} {a b : List Int} (h : Mem2 w wr T1 T2 a b) (k : Nat) (z : Int) : Mem2 w (wr.setCell ⟨w.heap.size + 1, k, none⟩ (.int .i64 z)) T1 T2 a (b.set k z) :=
  ⟨h.1.keepBut (grown_setCell wr ⟨w.heap.size + 1, k, none⟩ (.int .i64 z)) (by simp), h.2.1.set k z, grown_own h.2.2 (grown_setCell wr ⟨w.heap.size + 1, k, none⟩ (.int .i64 z)) (by simp)⟩
theorem tmod_nat (m L : Nat) : (m : Int).tmod (L : Int) = ((m % L : Nat) : Int) := by
  rw [Int.tmod_eq_emod_of_nonneg (by omega)]; exact (Int.natCast_emod m L).symm
set_option maxRecDepth 100000 in
theorem pitPast_any (h : List Int) (hh : h.length = 80) (lag : Int) (w : World) :
    Calls Try.prog 13 #[.agg (arrI h), .int .i64 lag] w (ListE w (pasL h lag) (pasE lag)) := by
  have WI := hide (fun w' => pitWithin_any lag 20 79 w')
  have G0 := hide (grown_alloc w (.cells (arrI h) 37) none)
  by_cases hlag : 20 ≤ lag ∧ lag ≤ 79
  · rw [decide_eq_true hlag] at WI
    obtain ⟨L, rfl⟩ : ∃ L : Nat, lag = (L : Int) := ⟨lag.toNat, by omega⟩
    obtain ⟨e1, e2⟩ := pasL_yes h L (by omega) (by omega)
    rw [e1, e2]
    obtain ⟨l1, l2⟩ := hlag
    have M0 := hide (show Mem2 w ((w.alloc (.cells (arrI h) 37)).alloc (.cells (arrI (zeros 40)) 3)) 37 3 h (zeros 40) from laid2 w 37 3 h (zeros 40))
    have hsl := slice80 w.heap.size (80 - L) (by omega)
    have hJ : (80 : Int) - (L : Int) = ((80 - L : Nat) : Int) := by omega
    have hJ2 : 80 - (80 - L) = L := by omega
    rw [hJ2] at hsl
    have hmk := make_zeros 40 (by omega)
    rw [show ((40 : Nat) : Int) = 40 from rfl] at hmk
    have BJ := hide (show ∀ i, 80 - L + i = (80 - L) + i from fun _ => rfl)
    clear e1 e2 G0
    generalize hj : 80 - L = J at *
    have HJ := hide hj
    have jb : J + L = 80 := by omega
    clear hj hJ2
    go_enter Try.func13, Try.ntmps13
    go_wp2_with fail
    refine (WI.out _).mono ?_
    rintro e w1 ⟨rfl, rfl⟩
    clear WI
    go_wp2_with fail
    clear hmk hsl
    generalize (w.alloc (.cells (arrI h) 37)).alloc _ = W0 at *
    go_loopw [18] (fun i wr => ∃ (m : Nat) (rs : List Int), i = .int .i64 m ∧ m ≤ 40 ∧ Hid (FillN 40 (pasN h L) m rs) ∧ Hid (Mem2 w wr 37 3 h rs)) (fun i _ => 40 - (intOf i).toNat)
    case atStart => exact ⟨0, zeros 40, rfl, Nat.zero_le _, fillN_start 40 _, M0.out⟩
    case round =>
      obtain ⟨m, rs, rfl, hm, hF, hM⟩ := hrel
      clear M0
      by_cases hm40 : m < 40
      · have hlen : rs.length = 40 := hF.out.1
        have hq : m % L < L := Nat.mod_lt m (by omega)
        have cx := hM.out.1.cell (J + m % L) (by omega)
        rw [show nth h (J + m % L) = pasN h L m by unfold pasN; rw [HJ.out]] at cx
        have cd := hM.out.2.1.cell m (by omega)
        have fd := hM.out.2.1.free m
        have NF := hide (fillN_step hF.out hm40)
        have NM := hide (hM.out.set2 m (pasN h L m))
        have tm := tmod_nat m L
        have i1 : (m : Int) < 40 := by omega
        have i2 : ¬ (L : Int) = 0 := by omega
        have i3 : ((m % L : Nat) : Int) < L := by omega
        clear hF hM hlen HJ BJ
        generalize pasN h L m = z at *
        generalize nth rs m = q at *
        generalize m % L = M at *
        go_wp2_with fail
        go_roundw
        case rel => exact ⟨m + 1, _, by go_num, by omega, NF.out, NM.out⟩
        case measure => simp [intOf]; omega
      · obtain rfl : m = 40 := by omega
        have EL := hide (show rs = pasV h L from fillN_all hF.out)
        have hlen : rs.length = 40 := hF.out.1
        have OF := ownP_any (base := w.heap.size) hM.out.2.1 (by omega) (by omega)
        rw [hlen] at OF
        have GF := hide hM.out.2.2
        have OO := hide OF
        clear hF hM OF HJ BJ
        go_wp2_with fail
        go_ret2
        rw [EL.out] at OO
        exact ⟨_, rfl, OO.out, GF.out⟩
  · rw [show pasL h lag = [] from if_neg hlag, show pasE lag = 2 from if_neg hlag]
    rw [decide_eq_false hlag] at WI
    clear hlag
    go_enter Try.func13, Try.ntmps13
    go_wp2_with fail
    refine (WI.out _).mono ?_
    rintro e w1 ⟨rfl, rfl⟩
    clear WI
    go_wp2_with fail
    go_ret2
    exact ⟨_, rfl, Own_nil _ _, G0.out⟩
end Go.Proofs.Ytekdgohomaeeeab

/- VBlk -/
namespace Go.Proofs.Ytekdgohomaeeeab
open Go.RowKit
set_option linter.unusedVariables false
set_option linter.unusedSimpArgs false
def BlkV (w : World) (b : Nat) (T : TypeId) (cs : List Value) : Prop := w.heap[b]? = some (.cells cs.toArray T (0, 0))
theorem BlkV.cell {w : World} {b : Nat} {T : TypeId} {cs : List Value} (h : BlkV w b T cs) (i : Nat) : w.cell? ⟨b, i, none⟩ = cs[i]? := by rw [cell_of_heap h]; simp
theorem BlkV.free {w : World} {b : Nat} {T : TypeId} {cs : List Value} (h : BlkV w b T cs) (i : Nat) : w.frozen? ⟨b, i, none⟩ = false := frozen_of_heap h i
theorem BlkV.lt {w : World} {b : Nat} {T : TypeId} {cs : List Value} (h : BlkV w b T cs) : b < w.heap.size := lt_of_some h
theorem BlkV.keep {w w' : World} {b : Nat} {T : TypeId} {cs : List Value} (h : BlkV w b T cs) (g : w.grownBy w' none) : BlkV w' b T cs := (g.block _ (lt_of_some h) (by simp)).trans h
theorem BlkV.keepBut {w w' : World} {b : Nat} {T : TypeId} {cs : List Value} {r : Nat} (h : BlkV w b T cs) (g : w.grownBy w' (some r)) (hr : b ≠ r) : BlkV w' b T cs := (g.block _ (lt_of_some h) (by simpa using hr)).trans h
theorem BlkV.new (w : World) (T : TypeId) (cs : List Value) : BlkV (w.alloc (.cells cs.toArray T)) w.heap.size T cs := heap_new w _
theorem BlkV.set {w : World} {b : Nat} {T : TypeId} {cs : List Value} (h : BlkV w b T cs) (k : Nat) (v : Value) : BlkV (w.setCell ⟨b, k, none⟩ v) b T (cs.set k v) := by
  unfold BlkV
  rw [heap_setCell h]
  simp
theorem BlkV.range {w : World} {b : Nat} {T : TypeId} {cs : List Value} (h : BlkV w b T cs) (o n : Nat) : w.rangeAt b o ((cs.drop o).take n) := fun j v hv => by
  rw [h.cell]
  rw [List.getElem?_take] at hv
  split at hv
  · rw [List.getElem?_drop] at hv; exact hv
  · cases hv
theorem BlkV.there {w : World} {b : Nat} {T : TypeId} {cs : List Value} (h : BlkV w b T cs) (o n : Nat) (hn : o + n ≤ cs.length) : w.there b o n := fun j hj =>
  ⟨by rw [h.cell, List.getElem?_eq_getElem (by omega)]; rfl, h.free _⟩
def intsV (l : List Int) : List Value := l.map (Value.int .i64)
theorem intsV_len (l : List Int) : (intsV l).length = l.length := by simp [intsV]
def prt (l : List Int) (o n : Nat) : List Int := tab n (fun i => nth l (o + i))
theorem prt_len (l : List Int) (o n : Nat) : (prt l o n).length = n := tab_len _ _
theorem prt_nth (l : List Int) (o n i : Nat) (h : i < n) : nth (prt l o n) i = nth l (o + i) := tab_nth _ _ _ h
def mixC (l : List Int) (z : List Value) : List Value := intsV l ++ z
theorem mixC_get (l : List Int) (z : List Value) (i : Nat) (h : i < l.length) : (mixC l z)[i]? = some (.int .i64 (nth l i)) := by
  unfold mixC
  rw [List.getElem?_append_left (by rw [intsV_len]; exact h)]
  simp [intsV, nth, List.getD, h]
theorem BlkV.ints {w : World} {b : Nat} {T : TypeId} {l : List Int} {z : List Value} (h : BlkV w b T (mixC l z)) (o n c : Nat) (hn : o + n ≤ l.length) (hc : n ≤ c) : Ints w (.slice (some ⟨b, o, none⟩) n c) (prt l o n) := by
  refine ⟨some ⟨b, o, none⟩, c, by rw [prt_len], by rw [prt_len]; exact hc, fun _ => ⟨_, rfl, fun i hi => ?_⟩⟩
  rw [prt_len] at hi
  rw [Addr.add_mid, h.cell, mixC_get _ _ _ (by omega), prt_nth _ _ _ _ hi]
end Go.Proofs.Ytekdgohomaeeeab

/- DualMath -/
namespace Go.Proofs.Ytekdgohomaeeeab

end Go.Proofs.Ytekdgohomaeeeab

/- PowMath -/
namespace Go.Proofs.Ytekdgohomaeeeab

end Go.Proofs.Ytekdgohomaeeeab

/- GainMath -/
namespace Go.Proofs.Ytekdgohomaeeeab

end Go.Proofs.Ytekdgohomaeeeab

/- MemMath -/
namespace Go.Proofs.Ytekdgohomaeeeab
open Go.RowKit
set_option linter.unusedVariables false
set_option linter.unusedSimpArgs false
def mlo (i : Nat) : Int := if i < 8 then -31000 else if i < 96 then -32768 else if i = 98 then 20 else 0
def mhi (i : Nat) : Int := if i < 8 then 31000 else if i < 97 then 32767 else if i = 97 then 18022 else if i = 98 then 79 else if i = 99 then 6 else 65535
def goodM (l : List Int) : Bool := (List.range 101).all fun i => decide (mlo i ≤ nth l i) && decide (nth l i ≤ mhi i)
abbrev mxO (lag g : Int) (b : List Int) : Prop := b.length = 40 ∧ (20 ≤ lag ∧ lag ≤ 79) ∧ 0 ≤ g ∧ g ≤ 32767
def mxN (v : List Int) (g : Int) (b : List Int) (i : Nat) : Int := c16 ((c16 (nth v i) * g + 8192) / 16384 + c16 (nth b i))
def mxA (v : List Int) (g : Int) (b : List Int) : List Int := tab 40 (mxN v g b)
def mxL (h : List Int) (lag g : Int) (b : List Int) : List Int := if mxO lag g b then mxA (pasL h lag) g b else []
def mxE (lag g : Int) (b : List Int) : Int := if b.length = 40 then (if mxO lag g b then 0 else 2) else 1
theorem mxA_len (v : List Int) (g : Int) (b : List Int) : (mxA v g b).length = 40 := tab_len _ _
theorem mxL_yes {h : List Int} {lag g : Int} {b : List Int} (k : mxO lag g b) : mxL h lag g b = mxA (pasL h lag) g b ∧ mxE lag g b = 0 := ⟨if_pos k, by unfold mxE; rw [if_pos k.1, if_pos k]⟩
theorem mxL_size {h : List Int} {lag g : Int} {b : List Int} (k : b.length ≠ 40) : mxL h lag g b = [] ∧ mxE lag g b = 1 := ⟨if_neg (fun q => k q.1), if_neg k⟩
theorem mxL_range {h : List Int} {lag g : Int} {b : List Int} (k : b.length = 40) (q : ¬ mxO lag g b) : mxL h lag g b = [] ∧ mxE lag g b = 2 := ⟨if_neg q, by unfold mxE; rw [if_pos k, if_neg q]⟩
def kpN (h b : List Int) (i : Nat) : Int := if i < 40 then nth h (i + 40) else c16 (nth b (i - 40))
def kpA (h b : List Int) : List Int := tab 80 (kpN h b)
def kpL (h b : List Int) : List Int := if b.length = 40 then kpA h b else zeros 80
def kpE (b : List Int) : Int := if b.length = 40 then 0 else 1
theorem kpA_len (h b : List Int) : (kpA h b).length = 80 := tab_len _ _
theorem kpL_yes {h b : List Int} (k : b.length = 40) : kpL h b = kpA h b ∧ kpE b = 0 := ⟨if_pos k, if_pos k⟩
theorem kpL_no {h b : List Int} (k : b.length ≠ 40) : kpL h b = zeros 80 ∧ kpE b = 1 := ⟨if_neg k, if_neg k⟩
abbrev erO (l : List Int) (half : Int) : Prop := goodM l = true ∧ 0 ≤ half ∧ half ≤ 1
end Go.Proofs.Ytekdgohomaeeeab

/- ConX -/
namespace Go.Proofs.Ytekdgohomaeeeab
open Go.RowKit
set_option linter.unusedVariables false
set_option linter.unusedSimpArgs false
theorem size80c : (Try.prog.info? 37).map (·.size) = some 80 := by kernel_rfl
theorem z80 : (Try.prog.info? 37).bind (·.zero) = some (.agg (arrI (zeros 80))) := by kernel_rfl
theorem Ints_cell {w : World} {ad : Option Addr} {n c : Nat} {l : List Int} (h : Ints w (.slice ad n c) l) (k : Nat) (hk : k < l.length) : ∃ a, ad = some a ∧ w.cell? (a.add k) = some (.int .i64 (nth l k)) := by
  obtain ⟨ad', c', e, _, h2⟩ := h
  simp only [Value.slice.injEq] at e
  obtain ⟨rfl, e2, rfl⟩ := e
  obtain ⟨a, rfl, h3⟩ := h2 (by omega)
  exact ⟨a, rfl, h3 k hk⟩
def KepE (w : World) (m : List Int) (en : Int) (e : Ending) (w' : World) : Prop := e = .returned (.tuple #[.agg (arrI m), .int .i64 en]) ∧ w.grownBy w' none
def In1 (x : Int) : Prop := -9223372036854775808 ≤ x ∧ x ≤ 9223372036854775807
def CMx (f : Nat) (w : World) : Prop := ∀ (h : List Int) (lag g : Int) (v : Value) (b : List Int) (wr : World), h.length = 80 → In64 h → In1 lag → In1 g → In64 b → w.grownBy wr none → Ints wr v b → b.length ≤ 1000000000000000000 → Calls Try.prog f #[.agg (arrI h), .int .i64 lag, .int .i64 g, v] wr (ListE wr (mxL h lag g b) (mxE lag g b))
def CKp (f : Nat) (w : World) : Prop := ∀ (h : List Int) (v : Value) (b : List Int) (wr : World), h.length = 80 → In64 h → In64 b → w.grownBy wr none → Ints wr v b → b.length ≤ 1000000000000000000 → Calls Try.prog f #[.agg (arrI h), v] wr (KepE wr (kpL h b) (kpE b))
end Go.Proofs.Ytekdgohomaeeeab

/- LPmem -/
namespace Go.Proofs.Ytekdgohomaeeeab
open Go.RowKit
set_option linter.unusedVariables false
set_option linter.unusedSimpArgs false
set_option maxHeartbeats 2000000
theorem z80p : (Try.prog.info? 37).bind (·.zero) = some (.agg (arrI (zeros 80))) := by kernel_rfl
theorem z4p : (Try.prog.info? 28).bind (·.zero) = some (.agg (arrI (zeros 4))) := by kernel_rfl
theorem zer_64 (n : Nat) : In64 (zeros n) := fun i => by rw [zeros_nth]; omega
theorem blk_64 {l : List Int} (h : ∀ i, -32768 ≤ nth l i ∧ nth l i ≤ 32767) : In64 l := fun i => by have := h i; omega
theorem pas_zero : pasL (zeros 80) 20 = zeros 40 ∧ pasE 20 = 0 := by
  refine ⟨?_, rfl⟩
  have h := tab_ext (l := pasL (zeros 80) 20) (p := fun _ => (0 : Int)) (show (pasL (zeros 80) 20).length = 40 by unfold pasL; rw [if_pos (by omega), pasV_len]) (fun i hi => by
    unfold pasL
    rw [if_pos (by omega), show nth (pasV (zeros 80) (20 : Int).toNat) i = pasN (zeros 80) (20 : Int).toNat i from tab_nth _ _ _ hi]
    unfold pasN
    exact zeros_nth _ _)
  have h2 := tab_ext (l := zeros 40) (p := fun _ => (0 : Int)) (zeros_len _) (fun i _ => zeros_nth _ _)
  rw [h, ← h2]
theorem tgV_le (t r : List Int) : (tgV t r).length ≤ 40 := by
  unfold tgV
  split
  · unfold tgL; rw [tab_len]; omega
  · simp
theorem mx_le (h : List Int) (lag g : Int) (b : List Int) : (mxL h lag g b).length ≤ 40 := by
  unfold mxL
  split
  · rw [mxA_len]; omega
  · simp
set_option maxRecDepth 100000 in
theorem law_pulMemory (w : World) (pm : CMx 11 w) (pk : CKp 12 w) (vd : Value) (d : List Int) (hi : Ints w vd d) (hl : d.length * 8 ≤ 140737488351232) (hd64 : In64 d) (hsd : Shp vd d) (vr : Value) (r : List Int) (hr : Ints w vr r) (hlr : r.length * 8 ≤ 140737488351232) (hr64 : In64 r) (hsr : Shp vr r) :
    Calls Try.prog 3 #[vd, vr] w fun e w' => e = .returned (.bool true) ∧ Below w.heap.size w w' := by
  have LD := hide (fun wr (q : w.grownBy wr none) => lists_any vd d wr (Ints_keep hi q) hl 40 (by omega))
  have LR := hide (fun wr (q : w.grownBy wr none) => lists_any vr r wr (Ints_keep hr q) hlr 40 (by omega))
  rw [show ((40 : Nat) : Int) = 40 from rfl] at LD LR
  obtain ⟨ad, cd, rfl, hcd, _⟩ := hi
  obtain ⟨ar, cr, rfl, hcr, _⟩ := hr
  have hz := zero_arr z80p
  have hz4 := zero_arr z4p
  clear hd64 hr64 hsd hsr hcd hcr
  go_enter Try.func3, Try.ntmps3
  go_wp2_with fail
  refine (LD.out w (grown_refl _ _)).mono ?_
  rintro e w1 ⟨b1, D, rfl, bD, hDn, hDr, hb1, g1⟩
  have G1 := hide g1
  have BD := hide bD
  clear LD bD g1 hb1
  go_wp2_with fail
  refine (LR.out w1 G1.out).mono ?_
  rintro e w2 ⟨b2, R, rfl, bR, hRn, hRr, hb2, g2⟩
  have G2 := hide (grown_none G1.out g2)
  replace BD := hide (BD.out.keep g2)
  have BR := hide bR
  have DR := hide hDr
  have RR := hide hRr
  have DL := hide hDn
  have RL := hide hRn
  clear LR bR g2 hb2 G1 hDr hRr
  have RO := hide (fun wr (h : Blk wr b1 3 D) => roomy_any _ D wr (Ints_of_blk h) (by omega))
  have RP := hide (fun wr (h : Blk wr b2 3 R) => roomy_any _ R wr (Ints_of_blk h) (by omega))
  rw [hDn] at RO
  rw [hRn] at RP
  clear hDn hRn
  go_wp2_with fail
  refine (RO.out w2 BD.out).mono ?_
  rintro e w3 ⟨bm, rfl, _, hM, g3⟩
  have RM := hide hM
  replace BD := hide (BD.out.keep g3)
  replace BR := hide (BR.out.keep g3)
  have G3 := hide (grown_none G2.out g3)
  clear hM g3 G2 RO
  go_wp2_with fail
  refine (RP.out w3 BR.out).mono ?_
  rintro e w4 ⟨bn, rfl, _, hN, g4⟩
  have RN := hide hN
  replace RM := hide (RM.out.keep g4)
  replace BD := hide (BD.out.keep g4)
  replace BR := hide (BR.out.keep g4)
  have G4 := hide (grown_none G3.out g4)
  clear hN g4 G3 RP
  have KM := hide (fun wr (q : w4.grownBy wr none) => (show Ints wr (.slice (some ⟨bm, 0, none⟩) 40 (40 + 2)) D from by have := Room.ints (RM.out.keep q); rwa [DL.out] at this))
  have KN := hide (fun wr (q : w4.grownBy wr none) => (show Ints wr (.slice (some ⟨bn, 0, none⟩) 40 (40 + 2)) R from by have := Room.ints (RN.out.keep q); rwa [RL.out] at this))
  have SM := hide (show Shp (.slice (some ⟨bm, 0, none⟩) 40 (40 + 2)) D from .inr ⟨_, _, by rw [DL.out]⟩)
  have TA := hide (fun wr (q : w4.grownBy wr none) => pulTarget_any _ _ D R wr (KM.out wr q) (KN.out wr q) SM.out (by rw [DL.out]; omega) (by rw [RL.out]; omega))
  have FE := hide (fun wr (q : w4.grownBy wr none) => pulFew_any _ _ D R wr (KM.out wr q) (KN.out wr q) (by rw [DL.out]; omega) (by rw [RL.out]; omega))
  have EN := hide (fun wr (q : w4.grownBy wr none) => pulEnergy_any _ R 3 5 wr (KN.out wr q) (by rw [RL.out]; omega))
  have SC := hide (fun wr (q : w4.grownBy wr none) => pulScore_any _ _ D R (zeros 4) wr (KM.out wr q) (KN.out wr q) (zeros_len 4) (by rw [DL.out]; omega) (by rw [RL.out]; omega))
  have MX := hide (fun wr (q : w4.grownBy wr none) => pm (zeros 80) 20 0 _ D wr (zeros_len 80) (zer_64 80) ⟨by omega, by omega⟩ ⟨by omega, by omega⟩ (blk_64 DR.out) (grown_none G4.out q) (KM.out wr q) (by rw [DL.out]; omega))
  have KP := hide (fun wr (q : w4.grownBy wr none) => pk (zeros 80) _ D wr (zeros_len 80) (zer_64 80) (blk_64 DR.out) (grown_none G4.out q) (KM.out wr q) (by rw [DL.out]; omega))
  have PA := hide (fun wr => pitPast_any (zeros 80) (zeros_len 80) 20 wr)
  rw [pas_zero.1, pas_zero.2] at PA
  have TL := hide (tgV_le D R)
  have ML := hide (mx_le (zeros 80) 20 0 D)
  have ST1 := hide (fun wr (q : w4.grownBy wr none) => (show Calls Try.prog 15 #[.slice (some ⟨bm, 0, none⟩) 40 (40 + 2), .slice (some ⟨b1, 0, none⟩) 40 40] wr (fun e w' => e = .returned (.bool true) ∧ wr.grownBy w' none) from by have := stayed_any bm D wr (RM.out.keep q) _ (Ints_of_blk (BD.out.keep q)) (by rw [DL.out]; omega); rwa [DL.out] at this))
  have ST2 := hide (fun wr (q : w4.grownBy wr none) => (show Calls Try.prog 15 #[.slice (some ⟨bn, 0, none⟩) 40 (40 + 2), .slice (some ⟨b2, 0, none⟩) 40 40] wr (fun e w' => e = .returned (.bool true) ∧ wr.grownBy w' none) from by have := stayed_any bn R wr (RN.out.keep q) _ (Ints_of_blk (BR.out.keep q)) (by rw [RL.out]; omega); rwa [RL.out] at this))
  rw [show (40 + 2 : Nat) = 42 from rfl] at TA FE EN SC MX KP ST1 ST2 ⊢
  clear KM KN SM pm pk RM RN BD BR DR RR DL RL
  generalize tgV D R = X at *
  generalize tgE D R = ex at *
  generalize mxL (zeros 80) 20 0 D = Y at *
  generalize mxE 20 0 D = ey at *
  generalize kpL (zeros 80) D = KK at *
  generalize kpE D = ek at *
  go_wp2_with fail
  refine (TA.out w4 (grown_refl _ _)).mono ?_
  rintro e w5 ⟨vx, rfl, ox, g5⟩
  have OX := hide ox
  have Q := hide g5
  clear ox g5 TA
  go_wp2_with fail
  refine (FE.out w5 Q.out).mono ?_
  rintro e w6 ⟨rfl, g6⟩
  replace OX := hide (OX.out.keep g6)
  replace Q := hide (grown_none Q.out g6)
  clear g6 FE
  go_wp2_with fail
  refine (EN.out w6 Q.out).mono ?_
  rintro e w7 ⟨rfl, g7⟩
  replace OX := hide (OX.out.keep g7)
  replace Q := hide (grown_none Q.out g7)
  clear g7 EN
  go_wp2_with fail
  refine (SC.out w7 Q.out).mono ?_
  rintro e w8 ⟨rfl, g8⟩
  replace OX := hide (OX.out.keep g8)
  replace Q := hide (grown_none Q.out g8)
  clear g8 SC
  go_wp2_with fail
  refine (scribble_any w4.heap.size vx X w8 OX.out (by have := TL.out; omega) Q.out.size).mono ?_
  rintro e w9 ⟨rfl, g9⟩
  replace Q := hide (grown_own' Q.out g9 (fun b hb => (OX.out.lt b hb).1))
  clear g9 OX
  go_wp2_with fail
  refine (MX.out w9 Q.out).mono ?_
  rintro e w10 ⟨vy, rfl, oy, g10⟩
  have OY := hide (oy.base Q.out.size)
  replace Q := hide (grown_none Q.out g10)
  clear g10 oy MX
  go_wp2_with fail
  refine (KP.out w10 Q.out).mono ?_
  rintro e w11 ⟨rfl, g11⟩
  replace OY := hide (OY.out.keep g11)
  replace Q := hide (grown_none Q.out g11)
  clear g11 KP
  go_wp2_with fail
  refine (scribble_any w4.heap.size vy Y w11 OY.out (by have := ML.out; omega) Q.out.size).mono ?_
  rintro e w12 ⟨rfl, g12⟩
  replace Q := hide (grown_own' Q.out g12 (fun b hb => (OY.out.lt b hb).1))
  clear g12 OY
  go_wp2_with fail
  refine (PA.out w12).mono ?_
  rintro e w13 ⟨vv, rfl, ov, g13⟩
  have OV := hide (ov.base Q.out.size)
  have SZ := hide (show ∀ b, vv.ownBlock = some b → b < w13.heap.size from fun b hb => (ov.lt b hb).2)
  replace Q := hide (grown_none Q.out g13)
  clear g13 ov
  go_wp2_with fail
  refine (PA.out w13).mono ?_
  rintro e w14 ⟨vw, rfl, ow, g14⟩
  obtain ⟨gw, cw, rfl, _⟩ := ow.form (by rw [zeros_len]; omega)
  have OW := hide ow
  replace OV := hide (OV.out.keep g14)
  replace Q := hide (grown_none Q.out g14)
  clear g14 ow PA
  rw [zeros_len] at OW ⊢
  go_wp2_with fail
  refine (scribble_any w4.heap.size vv (zeros 40) w14 OV.out (by rw [zeros_len]; omega) Q.out.size).mono ?_
  rintro e w15 ⟨rfl, g15⟩
  have cw0 := (show Own w13.heap.size w15 (.slice (some ⟨gw, 0, none⟩) 40 cw) (zeros 40) from World.ownsRow.kept OW.out g15 (by
    right
    intro e
    have h1 := SZ.out gw (by rw [← e]; rfl)
    have h2 := (OW.out.lt gw rfl).1
    omega)).cell (zeros_len 40).symm 0 (by rw [zeros_len]; omega)
  rw [zeros_nth] at cw0
  replace Q := hide (grown_own' Q.out g15 (fun b hb => (OV.out.lt b hb).1))
  clear g15 OV OW SZ hz hz4
  go_wp2_with fail
  refine (rings_any w15).mono ?_
  rintro e w16 ⟨rfl, g16⟩
  have cw1 := grown_keep g16 cw0
  replace Q := hide (grown_none Q.out g16)
  clear g16 cw0
  go_wp2_with fail
  refine (ST1.out w16 Q.out).mono ?_
  rintro e w17 ⟨rfl, g17⟩
  have cw2 := grown_keep g17 cw1
  replace Q := hide (grown_none Q.out g17)
  clear g17 cw1 ST1
  go_wp2_with fail
  refine (ST2.out w17 Q.out).mono ?_
  rintro e w18 ⟨rfl, g18⟩
  have cw3 := grown_keep g18 cw2
  have GF := hide (grown_none G4.out (grown_none Q.out g18))
  clear g18 cw2 ST2 Q G4
  go_wp2_with fail
  go_ret
  exact ⟨rfl, below_of_grown GF.out⟩
end Go.Proofs.Ytekdgohomaeeeab

/- CnpS -/
namespace Go.Proofs.Ytekdgohomaeeeab
open Go.RowKit
set_option linter.unusedVariables false
set_option linter.unusedSimpArgs false
set_option maxHeartbeats 2000000
theorem conWithin_any (x a b : Int) (w : World) : Calls Try.prog 28 #[.int .i64 x, .int .i64 a, .int .i64 b] w (Ans w (.bool (decide (a ≤ x ∧ x ≤ b)))) := by
  by_cases h1 : a ≤ x
  · by_cases h2 : x ≤ b
    · rw [decide_eq_true (show a ≤ x ∧ x ≤ b from ⟨h1, h2⟩)]
      go_enter Try.func28, Try.ntmps28
      go_wp2_with fail
      go_ret
      exact ⟨rfl, rfl⟩
    · rw [decide_eq_false (show ¬ (a ≤ x ∧ x ≤ b) from fun h => h2 h.2)]
      go_enter Try.func28, Try.ntmps28
      go_wp2_with fail
      go_ret
      exact ⟨rfl, rfl⟩
  · rw [decide_eq_false (show ¬ (a ≤ x ∧ x ≤ b) from fun h => h1 h.1)]
    go_enter Try.func28, Try.ntmps28
    go_wp2_with fail
    go_ret
    exact ⟨rfl, rfl⟩
theorem conStopped_any (x : Int) (w : World) : Calls Try.prog 29 #[.int .i64 x] w (Ans w (.int .i64 (c16 x))) := by
  have F := hide (show ∀ z, z = c16 x → Ans w (.int .i64 (c16 x)) (.returned (.int .i64 z)) w from fun z hz => ⟨by rw [hz], rfl⟩)
  generalize Ans w (.int .i64 (c16 x)) = T at *
  go_enter Try.func29, Try.ntmps29
  go_wp2_with fail
  all_goals (refine F.out _ ?_; unfold c16; (repeat' split) <;> omega)
theorem conScaled_any (x g : Int) (h1 : -4611686018427387904 ≤ x * g) (h2 : x * g ≤ 4611686018427387904) (w : World) : Calls Try.prog 30 #[.int .i64 x, .int .i64 g] w (Ans w (.int .i64 ((x * g + 8192) / 16384))) := by
  have F := hide (show Ans w (.int .i64 ((x * g + 8192) / 16384)) (.returned (.int .i64 ((x * g + 8192) / 16384))) w from ⟨rfl, rfl⟩)
  generalize Ans w (.int .i64 ((x * g + 8192) / 16384)) = T at *
  go_enter Try.func30, Try.ntmps30
  go_wp2_with fail
  exact F.out
end Go.Proofs.Ytekdgohomaeeeab

/- PartL -/
namespace Go.Proofs.Ytekdgohomaeeeab
open Go.RowKit
set_option linter.unusedVariables false
set_option linter.unusedSimpArgs false
set_option maxHeartbeats 1000000
def splI (L : List Int) (off : Nat) (M : List Int) : List Int := L.take off ++ M ++ L.drop (off + M.length)
theorem splI_len (L : List Int) (off : Nat) (M : List Int) (h : off + M.length ≤ L.length) : (splI L off M).length = L.length := by simp [splI]; omega
theorem splI_nth (L : List Int) (off : Nat) (M : List Int) (h : off + M.length ≤ L.length) (k : Nat) : nth (splI L off M) k = if k < off then nth L k else if k < off + M.length then nth M (k - off) else nth L k := by
  unfold splI nth
  have e : min off L.length = off := by omega
  by_cases h1 : k < off
  · rw [if_pos h1]
    simp [List.getD, List.getElem?_append, h1, e, show k < L.length by omega, show k < off + M.length by omega]
  · rw [if_neg h1]
    by_cases h2 : k < off + M.length
    · rw [if_pos h2]
      simp [List.getD, List.getElem?_append, e, h1, h2]
      rw [if_pos (by omega)]
    · rw [if_neg h2]
      simp [List.getD, List.getElem?_append, e, h1, h2]
      rw [if_neg (by omega), show off + M.length + (k - off - M.length) = k by omega]
theorem grown_setRowI (w : World) (g : Nat) (cs : Array Value) : w.grownBy (w.setRow g cs) (some g) :=
  ⟨rfl, rfl, rfl, by simp, fun k _ h => setRow_other w g k cs (fun e => h (by rw [e]))⟩
end Go.Proofs.Ytekdgohomaeeeab

/- CnpB -/
namespace Go.Proofs.Ytekdgohomaeeeab
open Go.RowKit
set_option linter.unusedVariables false
set_option linter.unusedSimpArgs false
set_option maxHeartbeats 2000000
set_option maxRecDepth 100000 in
theorem conMix_size (h : List Int) (lag g : Int) (v : Value) (b : List Int) (w : World) (hv : Ints w v b) (hl : b.length ≠ 40) (hl2 : b.length ≤ 1000000000000000000) :
    Calls Try.prog 11 #[.agg (arrI h), .int .i64 lag, .int .i64 g, v] w (ListE w (mxL h lag g b) (mxE lag g b)) := by
  obtain ⟨ad, c, rfl, hc, _⟩ := hv
  have hne : ((b.length : Int) == 40) = false := beq_eq_false_iff_ne.2 (by omega)
  have F := hide (show ∀ w', w.grownBy w' none → ListE w (mxL h lag g b) (mxE lag g b) (.returned (.tuple #[.slice none 0 0, .int .i64 1])) w' from fun w' q => ⟨_, by rw [(mxL_size (h := h) hl).2], by rw [(mxL_size (h := h) hl).1]; exact Own_nil _ _, q⟩)
  have G0 := hide (grown_alloc w (.cells (arrI h) 37) none)
  clear hl
  generalize ListE w (mxL h lag g b) (mxE lag g b) = T at *
  go_enter Try.func11, Try.ntmps11
  go_upto_region 1 with fail
  generalize w.alloc (.cells (arrI h) 37) = W0 at *
  go_wp2_with fail
  exact F.out _ G0.out
set_option maxRecDepth 100000 in
theorem conMix_gain (h : List Int) (lag g : Int) (v : Value) (b : List Int) (w : World) (hv : Ints w v b) (hl : b.length = 40) (hr : ¬ (0 ≤ g ∧ g ≤ 32767)) :
    Calls Try.prog 11 #[.agg (arrI h), .int .i64 lag, .int .i64 g, v] w (ListE w (mxL h lag g b) (mxE lag g b)) := by
  obtain ⟨ad, c, rfl, hc, _⟩ := hv
  have q : ¬ mxO lag g b := by unfold mxO; omega
  have F := hide (show ∀ w', w.grownBy w' none → ListE w (mxL h lag g b) (mxE lag g b) (.returned (.tuple #[.slice none 0 0, .int .i64 2])) w' from fun w' k => ⟨_, by rw [(mxL_range (h := h) hl q).2], by rw [(mxL_range (h := h) hl q).1]; exact Own_nil _ _, k⟩)
  have G0 := hide (grown_alloc w (.cells (arrI h) 37) none)
  have WI := hide (fun u => conWithin_any g 0 32767 u)
  rw [decide_eq_false hr] at WI
  rw [hl] at hc ⊢
  clear hl q hr
  generalize ListE w (mxL h lag g b) (mxE lag g b) = T at *
  go_enter Try.func11, Try.ntmps11
  go_upto_region 1 with fail
  generalize w.alloc (.cells (arrI h) 37) = W0 at *
  go_wp2_with fail
  refine (WI.out _).mono ?_
  rintro e w1 ⟨rfl, rfl⟩
  go_wp2_with fail
  exact F.out _ G0.out
set_option maxRecDepth 100000 in
theorem conMix_lag (h : List Int) (lag g : Int) (v : Value) (b : List Int) (w : World) (hh : h.length = 80) (hv : Ints w v b) (hl : b.length = 40) (hg : 0 ≤ g ∧ g ≤ 32767) (hr : ¬ (20 ≤ lag ∧ lag ≤ 79)) :
    Calls Try.prog 11 #[.agg (arrI h), .int .i64 lag, .int .i64 g, v] w (ListE w (mxL h lag g b) (mxE lag g b)) := by
  obtain ⟨ad, c, rfl, hc, _⟩ := hv
  have q : ¬ mxO lag g b := by unfold mxO; omega
  have F := hide (show ∀ w', w.grownBy w' none → ListE w (mxL h lag g b) (mxE lag g b) (.returned (.tuple #[.slice none 0 0, .int .i64 2])) w' from fun w' k => ⟨_, by rw [(mxL_range (h := h) hl q).2], by rw [(mxL_range (h := h) hl q).1]; exact Own_nil _ _, k⟩)
  have B0 := hide (Blk.new w 37 h)
  have G0 := hide (grown_alloc w (.cells (arrI h) 37) none)
  have WI := hide (fun u => conWithin_any g 0 32767 u)
  rw [decide_eq_true hg] at WI
  have PS := hide (fun u => pitPast_any h hh lag u)
  rw [show pasL h lag = [] from if_neg hr, show pasE lag = 2 from if_neg hr] at PS
  have S80 := hide (show (Try.prog.info? 37).map (·.size) = some h.length by rw [hh]; exact size80c)
  rw [hl] at hc ⊢
  clear hl q hr hg hh
  generalize ListE w (mxL h lag g b) (mxE lag g b) = T at *
  go_enter Try.func11, Try.ntmps11
  go_upto_region 1 with fail
  generalize w.alloc (.cells (arrI h) 37) = W0 at *
  go_wp2_with fail
  refine (WI.out _).mono ?_
  rintro e w1 ⟨rfl, rfl⟩
  clear WI
  go_wp2_with (refine wpList_load_arr rfl 37 _ rfl w.heap.size rfl h B0.out _ Try.underlying37 rfl S80.out ?_)
  refine (PS.out _).mono ?_
  rintro e w2 ⟨v2, rfl, o2, g2⟩
  have FF := hide (F.out _ (grown_none G0.out g2))
  clear PS o2 g2 F
  go_wp2_with fail
  exact FF.out
set_option maxRecDepth 100000 in
theorem conMix_yes (h : List Int) (lag g : Int) (v : Value) (b : List Int) (w : World) (hh : h.length = 80) (hv : Ints w v b) (hk : mxO lag g b) :
    Calls Try.prog 11 #[.agg (arrI h), .int .i64 lag, .int .i64 g, v] w (ListE w (mxL h lag g b) (mxE lag g b)) := by
  have IV := hide (fun wr (g : w.grownBy wr none) => Ints_keep hv g)
  obtain ⟨ad, c, rfl, hc, _⟩ := hv
  have hl := hk.1
  rw [hl] at hc IV ⊢
  obtain ⟨_, ⟨l0, l9⟩, g0, g9⟩ := id hk
  have PS := hide (fun u => pitPast_any h hh lag u)
  have pl : (pasL h lag).length = 40 := by
    obtain ⟨L, rfl⟩ : ∃ L : Nat, lag = (L : Int) := ⟨lag.toNat, by omega⟩
    rw [(pasL_yes h L (by omega) (by omega)).1]; exact pasV_len _ _
  have pe : pasE lag = 0 := if_pos ⟨l0, l9⟩
  rw [pe] at PS
  have F := hide (show ∀ v' w', Own w.heap.size w' v' (mxA (pasL h lag) g b) → w.grownBy w' none → ListE w (mxL h lag g b) (mxE lag g b) (.returned (.tuple #[v', .int .i64 0])) w' from fun v' w' o q => ⟨v', by rw [(mxL_yes (h := h) hk).2], by rw [(mxL_yes (h := h) hk).1]; exact o, q⟩)
  have WI := hide (fun u => conWithin_any g 0 32767 u)
  rw [decide_eq_true (show 0 ≤ g ∧ g ≤ 32767 from ⟨g0, g9⟩)] at WI
  have B0 := hide (Blk.new w 37 h)
  have G0 := hide (grown_alloc w (.cells (arrI h) 37) none)
  have BL := hide hl
  have VL := hide pl
  have S80 := hide (show (Try.prog.info? 37).map (·.size) = some h.length by rw [hh]; exact size80c)
  have hmk := make_zeros 40 (by omega)
  rw [show ((40 : Nat) : Int) = 40 from rfl] at hmk
  clear hl hk hh pe pl
  generalize ListE w (mxL h lag g b) (mxE lag g b) = T at *
  generalize pasL h lag = V at *
  go_enter Try.func11, Try.ntmps11
  go_upto_region 1 with fail
  generalize w.alloc (.cells (arrI h) 37) = W0 at *
  go_wp2_with fail
  refine (WI.out _).mono ?_
  rintro e w1 ⟨rfl, rfl⟩
  clear WI
  go_wp2_with (refine wpList_load_arr rfl 37 _ rfl w.heap.size rfl h B0.out _ Try.underlying37 rfl S80.out ?_)
  refine (PS.out _).mono ?_
  rintro e W2 ⟨v2, rfl, o2, g2⟩
  obtain ⟨gv, cv', rfl, _, _, _⟩ := o2.form (by rw [VL.out]; omega)
  have G2 := hide (grown_none G0.out g2)
  have OV := hide o2
  clear o2 g2 PS B0 G0 S80
  rw [VL.out] at OV ⊢
  have M0 := hide (show Blk (W2.alloc (.cells (arrI (zeros 40)) 3)) W2.heap.size 3 (zeros 40) ∧ W2.grownBy (W2.alloc (.cells (arrI (zeros 40)) 3)) none from ⟨Blk.new W2 3 (zeros 40), grown_alloc _ _ none⟩)
  go_upto_region 9 with fail
  clear hmk
  generalize W2.alloc (.cells (arrI (zeros 40)) 3) = W3 at *
  go_wp2_with fail
  go_loopw [33] (fun i wr => ∃ (m : Nat) (rs : List Int), i = .int .i64 (m : Int) ∧ m ≤ 40 ∧ Hid (FillN 40 (mxN V g b) m rs) ∧ Hid (Blk wr W2.heap.size 3 rs ∧ W2.grownBy wr none)) (fun i _ => 40 - (intOf i).toNat)
  case atStart => exact ⟨0, zeros 40, rfl, Nat.zero_le _, fillN_start 40 _, M0.out⟩
  case round =>
    obtain ⟨m, rs, rfl, hm, hF, hM⟩ := hrel
    clear M0
    by_cases hm40 : m < 40
    · have i1 : (m : Int) < 40 := by omega
      have cv := (OV.out.keep hM.out.2).cell VL.out.symm m (by rw [VL.out]; exact hm40)
      obtain ⟨a, rfl, cb⟩ := Ints_cell (IV.out _ (grown_none G2.out hM.out.2)) m (by rw [BL.out]; exact hm40)
      have cd := hM.out.1.cell m (by rw [hF.out.1]; exact hm40)
      have fd := hM.out.1.free m
      have NF := hide (fillN_step hF.out hm40)
      have NM := hide (show Blk (wr.drew.setCell ⟨W2.heap.size, m, none⟩ (.int .i64 (mxN V g b m))) W2.heap.size 3 (rs.set m (mxN V g b m)) ∧ W2.grownBy (wr.drew.setCell ⟨W2.heap.size, m, none⟩ (.int .i64 (mxN V g b m))) none from ⟨(hM.out.1.keep (grown_drew (grown_refl wr none))).set m _, grown_own (grown_none hM.out.2 (grown_drew (grown_refl wr none))) (grown_setCell _ ⟨W2.heap.size, m, none⟩ _) (Nat.le_refl _)⟩)
      have EN := hide (show c16 ((c16 (nth V m) * g + 8192) / 16384 + c16 (nth b m)) = mxN V g b m from rfl)
      have bx := c16_bd (nth V m)
      have by' := c16_bd (nth b m)
      have bg : -1073709056 ≤ c16 (nth V m) * g ∧ c16 (nth V m) * g ≤ 1073741824 := mul16_bd _ _ bx.1 bx.2 (by omega) g9
      clear IV hF hM OV
      generalize mxN V g b m = R at *
      generalize nth V m = x at *
      generalize nth b m = y at *
      generalize nth rs m = q at *
      have W3 := wrapI ((c16 x * g + 8192) / 16384 + c16 y) (by omega) (by omega)
      go_upto_region 12 with fail
      refine wp_region_G 14 (fun w' => w' = wr.drew) 15 (by rfl) #[false, false, false, false, false, false, false, false, false, false, false, false, false, false, false] (by rfl) (by kernel_rfl) (fun hcl => ?_)
      refine wpAnyG_take (i := 0) (v := ?vmx0) rfl (by kernel_rfl) hcl (fun _ _ _ h => h) (Or.inl ⟨by rfl, ?ymx0⟩) rfl (fun hcl => ?rmx0)
      case ymx0 => (intro w' hSw; subst hSw; go_simp; try with_reducible rfl)
      (try simp only [Act.put, sL])
      refine wpAnyG_take (i := 1) (v := ?vmx1) rfl (by kernel_rfl) hcl (fun _ _ _ h => h) (Or.inl ⟨by rfl, ?ymx1⟩) rfl (fun hcl => ?rmx1)
      case ymx1 => (intro w' hSw; subst hSw; go_simp; try with_reducible rfl)
      (try simp only [Act.put, sL])
      refine wpAnyG_take (i := 2) (v := ?vmx2) rfl (by kernel_rfl) hcl (fun _ _ _ h => h) (Or.inl ⟨by rfl, ?ymx2⟩) rfl (fun hcl => ?rmx2)
      case ymx2 => (intro w' hSw; subst hSw; go_simp; try with_reducible rfl)
      (try simp only [Act.put, sL])
      refine wpAnyG_take (i := 4) (v := ?vmx4) rfl (by kernel_rfl) hcl (fun _ _ _ h => h) (Or.inl ⟨by rfl, ?ymx4⟩) rfl (fun hcl => ?rmx4)
      case ymx4 => (intro w' hSw; subst hSw; go_simp; try with_reducible rfl)
      (try simp only [Act.put, sL])
      refine wpAnyG_take (i := 6) (v := ?vmx6) rfl (by kernel_rfl) hcl (fun _ _ _ h => h) (Or.inl ⟨by rfl, ?ymx6⟩) rfl (fun hcl => ?rmx6)
      case ymx6 => (intro w' hSw; subst hSw; go_simp; try with_reducible rfl)
      (try simp only [Act.put, sL])
      refine wpAnyG_take (i := 7) (v := ?vmx7) rfl (by kernel_rfl) hcl (fun _ _ _ h => h) (Or.inl ⟨by rfl, ?ymx7⟩) rfl (fun hcl => ?rmx7)
      case ymx7 => (intro w' hSw; subst hSw; go_simp; try with_reducible rfl)
      (try simp only [Act.put, sL])
      refine wpAnyG_take (i := 8) (v := ?vmx8) rfl (by kernel_rfl) hcl (fun _ _ _ h => h) (Or.inl ⟨by rfl, ?ymx8⟩) rfl (fun hcl => ?rmx8)
      case ymx8 => (intro w' hSw; subst hSw; go_simp; try with_reducible rfl)
      (try simp only [Act.put, sL])
      refine wpAnyG_take (i := 9) (v := .int .i64 y) rfl (by kernel_rfl) hcl (fun _ _ _ h => h) (Or.inl ⟨by rfl, ?ymx9⟩) rfl (fun hcl => ?rmx9)
      case ymx9 => (intro w' hSw; subst hSw; go_simp; try with_reducible rfl)
      (try simp only [Act.put, sL])
      refine wpAnyG_exec (i := 3) rfl (by kernel_rfl) hcl (fun K hK => ?_)
      (try simp only [Act.put, sL])
      go_simp
      refine (conStopped_any x _).mono ?_
      rintro e w1 ⟨rfl, rfl⟩
      go_wp2_with fail
      refine hK.out _ _ (fun _ => rfl) (fun hcl => ?_)
      clear hK
      (try simp only [Act.put, sL])
      refine wpAnyG_exec (i := 5) rfl (by kernel_rfl) hcl (fun K hK => ?_)
      (try simp only [Act.put, sL])
      go_simp
      refine (conScaled_any (c16 x) g (by omega) (by omega) _).mono ?_
      rintro e w1 ⟨rfl, rfl⟩
      go_wp2_with fail
      refine hK.out _ _ (fun _ => rfl) (fun hcl => ?_)
      clear hK
      (try simp only [Act.put, sL])
      refine wpAnyG_exec (i := 10) rfl (by kernel_rfl) hcl (fun K hK => ?_)
      (try simp only [Act.put, sL])
      go_simp
      refine (conStopped_any y _).mono ?_
      rintro e w1 ⟨rfl, rfl⟩
      go_wp2_with fail
      refine hK.out _ _ (fun _ => rfl) (fun hcl => ?_)
      clear hK
      (try simp only [Act.put, sL])
      refine wpAnyG_take (i := 11) (v := .int .i64 ((c16 x * g + 8192) / 16384 + c16 y)) rfl (by kernel_rfl) hcl (fun _ _ _ h => h) (Or.inl ⟨by rfl, ?ymx11⟩) rfl (fun hcl => ?rmx11)
      case ymx11 => (intro w' hSw; subst hSw; go_simp; (try simp only [W3]))
      (try simp only [Act.put, sL])
      refine wpAnyG_exec (i := 12) rfl (by kernel_rfl) hcl (fun K hK => ?_)
      (try simp only [Act.put, sL])
      go_simp
      refine (conStopped_any ((c16 x * g + 8192) / 16384 + c16 y) _).mono ?_
      rintro e w1 ⟨rfl, rfl⟩
      rw [EN.out]
      go_wp2_with fail
      refine hK.out _ _ (fun _ => rfl) (fun hcl => ?_)
      clear hK
      (try simp only [Act.put, sL])
      refine wpAnyG_take (i := 13) (v := ?vmx13) rfl (by kernel_rfl) hcl (fun _ _ _ h => h) (Or.inl ⟨by rfl, ?ymx13⟩) rfl (fun hcl => ?rmx13)
      case ymx13 => (intro w' hSw; subst hSw; go_simp; try with_reducible rfl)
      (try simp only [Act.put, sL])
      refine wpAnyG_exec (i := 14) rfl (by kernel_rfl) hcl (fun K hK => ?_)
      (try simp only [Act.put, sL])
      go_simp
      go_wp2_with fail
      refine hK.out _ _ (fun h => by cases h) (fun hcl => ?_)
      clear hK
      (try simp only [Act.put, sL])
      refine wpAnyG_of_any _ _ _ _ (by rfl) ?_
      refine wpAny_done (by kernel_rfl) ?_ _
      go_wp2_with fail
      go_roundw
      case rel => exact ⟨m + 1, _, by go_num, by omega, NF.out, NM.out⟩
      case measure => first | (simp [intOf]; done) | (simp [intOf]; omega)
    · obtain rfl : m = 40 := by omega
      have EL := hide (show rs = mxA V g b from fillN_all hF.out)
      have hlen : rs.length = 40 := hF.out.1
      have OF := ownP_any (base := w.heap.size) hM.out.1 G2.out.size (by omega)
      rw [hlen] at OF
      have FF := hide (F.out _ _ (by rw [← EL.out]; exact OF) (grown_none G2.out hM.out.2))
      clear hF hM F IV OF OV
      rw [show ((40 : Nat) : Int) = 40 from rfl]
      go_wp2_with fail
      exact FF.out
theorem conMix_any (h : List Int) (lag g : Int) (v : Value) (b : List Int) (w : World) (hh : h.length = 80) (hv : Ints w v b) (hl2 : b.length ≤ 1000000000000000000) :
    Calls Try.prog 11 #[.agg (arrI h), .int .i64 lag, .int .i64 g, v] w (ListE w (mxL h lag g b) (mxE lag g b)) := by
  by_cases hl : b.length = 40
  · by_cases hg : 0 ≤ g ∧ g ≤ 32767
    · by_cases hr : 20 ≤ lag ∧ lag ≤ 79
      · exact conMix_yes h lag g v b w hh hv ⟨hl, hr, hg⟩
      · exact conMix_lag h lag g v b w hh hv hl hg hr
    · exact conMix_gain h lag g v b w hv hl hg
  · exact conMix_size h lag g v b w hv hl hl2
theorem step_copyK {y : Nat → Option Bool} {o : Oper} {a : Act} {w : World} {K : Act → World → Prop} {Q : Exit → Act → World → Prop} {E : Prop} (hg : o.guard = none) (d s : Operand)
    (hop : o.op = Op.call { callee := Callee.builtin Builtin.copy, args := #[d, s], argTypes := #[22, 22] }) (b off dn n dc sc : Nat) (T : TypeId) (p L : List Int) (ad : Addr) (hb : Blk w b T p)
    (hd : a.eval d = .slice (some ⟨b, off, none⟩) dn dc) (hs : a.eval s = .slice (some ad) n sc) (hL : L.length = n) (hdn : n ≤ dn) (hsrc : ∀ j, j < n → w.cell? (ad.add j) = some (.int .i64 (nth L j))) (hfit : off + n ≤ p.length)
    (hK : ∀ w', Blk w' b T (splI p off L) → w.grownBy w' (some b) → K (a.put o.dst (goInt n)) w') : if Region.wanted o y = true then Oper.wp Try.prog o a w K Q else E := by
  have hw : Region.wanted o y = true := by simp [Region.wanted, hg]
  rw [if_pos hw]
  have hsz : (Try.prog.info? 3).map (·.size) = some 1 := by kernel_rfl
  have hrun := run_copy_row (P := Try.prog) w 22 22 o.type 3 b off dn dc ad n sc (arrI p) T (L.map (Value.int .i64)) Try.underlying22 hsz hb (by rw [List.length_map, hL]; exact (Nat.min_eq_left hdn).symm)
    (fun j v hv => by
      have hj : j < L.length := by
        by_cases hj : j < L.length
        · exact hj
        · rw [List.getElem?_eq_none (by simp; omega)] at hv; cases hv
      rw [hsrc j (by omega)]
      simpa [nth, List.getD, hj] using hv)
    (by simp [arrI, hL]; omega) (fun v hv => by
      obtain ⟨x, _, rfl⟩ := List.mem_map.1 hv
      rfl)
  have e : ((arrI p).toList.take off ++ L.map (Value.int .i64) ++ (arrI p).toList.drop (off + (L.map (Value.int .i64)).length)).toArray = arrI (splI p off L) := by
    simp [arrI, splI, List.map_take, List.map_drop]
  rw [e, List.length_map, hL] at hrun
  unfold Oper.wp
  simp [execOp, hop, resolve, invoke, builtin, hd, hs, hrun, Result.andThen]
  exact hK _ (setRow_heap _ _ _ _ _ _ hb) (grown_setRowI _ _ _)
theorem Mem2.put2 {w wr : World} {T1 T2 : TypeId} {a b b' : List Int} (h : Mem2 w wr T1 T2 a b) (hl : b'.length = b.length) : Blk (putArr wr (w.heap.size + 1) b') (w.heap.size + 1) T2 b' ∧ w.grownBy (putArr wr (w.heap.size + 1) b') none := by
  have := put_arr (rs' := b') h.2.1 hl
  exact ⟨this.1, grown_own h.2.2 this.2 (by omega)⟩
theorem Mem2.set1 {w wr : World} {T1 T2 : TypeId} {a b : List Int} (h : Mem2 w wr T1 T2 a b) (k : Nat) (z : Int) : Mem2 w (wr.setCell ⟨w.heap.size, k, none⟩ (.int .i64 z)) T1 T2 (a.set k z) b :=
  ⟨h.1.set k z, h.2.1.keepBut (grown_setCell wr ⟨w.heap.size, k, none⟩ (.int .i64 z)) (by simp), grown_own h.2.2 (grown_setCell wr ⟨w.heap.size, k, none⟩ (.int .i64 z)) (Nat.le_refl _)⟩
set_option maxRecDepth 100000 in
theorem conKeep_no (h : List Int) (v : Value) (b : List Int) (w : World) (hh : h.length = 80) (hv : Ints w v b) (hl : b.length ≠ 40) (hl2 : b.length ≤ 1000000000000000000) :
    Calls Try.prog 12 #[.agg (arrI h), v] w (KepE w (kpL h b) (kpE b)) := by
  obtain ⟨ad, c, rfl, hc, _⟩ := hv
  have M0 := hide (show Mem2 w _ 37 37 h (zeros 80) from laid2 w 37 37 h (zeros 80))
  have PU := M0.out.put2 (b' := zeros 80) rfl
  have PB := hide PU.1
  have ZL := hide (zeros_len 80)
  have hz := zero_arr z80
  have hne : ((b.length : Int) == 40) = false := beq_eq_false_iff_ne.2 (by omega)
  have F := hide (show KepE w (kpL h b) (kpE b) (.returned (.tuple #[.agg (arrI (zeros 80)), .int .i64 1])) _ from ⟨by rw [(kpL_no (h := h) hl).1, (kpL_no (h := h) hl).2], PU.2⟩)
  clear PU hl hh
  generalize KepE w (kpL h b) (kpE b) = T at *
  generalize zeros 80 = Z at *
  go_enter Try.func12, Try.ntmps12
  go_upto_region 1 with fail
  generalize (w.alloc (.cells (arrI h) 37)).alloc (.cells (arrI Z) 37) = W0 at *
  go_wp2_with (first | refine wpList_store_arr rfl 37 _ _ rfl _ Z Z rfl rfl M0.out.2.1 rfl (by rw [ZL.out]; exact size80c) ?_)
  have hlv := loadVar_arr PB.out _ Try.underlying37 rfl (by rw [ZL.out]; exact size80c)
  refine bodyPost_ret (v := .tuple #[.agg (arrI Z), .int .i64 1]) ?_ rfl F.out
  simp [results, Try.results12, asAddr, Act.put, hlv]
theorem kpFill_start (h b : List Int) (hh : h.length = 80) : FillN 80 (kpN h b) (40 + 0) (splI h 0 (prt h 40 40)) := by
  refine ⟨by rw [splI_len _ _ _ (by rw [prt_len]; omega)]; exact hh, fun j hj => ?_⟩
  rw [splI_nth _ _ _ (by rw [prt_len]; omega), if_neg (by omega), prt_len, if_pos (by omega), prt_nth _ _ _ _ (by omega)]
  unfold kpN
  rw [if_pos (by omega), show 40 + (j - 0) = j + 40 by omega]
set_option maxRecDepth 100000 in
theorem conKeep_yes (h : List Int) (v : Value) (b : List Int) (w : World) (hh : h.length = 80) (hv : Ints w v b) (hl : b.length = 40) :
    Calls Try.prog 12 #[.agg (arrI h), v] w (KepE w (kpL h b) (kpE b)) := by
  have IV := hide (fun wr (g : w.grownBy wr none) => Ints_keep hv g)
  obtain ⟨ad, c, rfl, hc, _⟩ := hv
  rw [hl] at IV hc ⊢
  have M0 := hide (show Mem2 w _ 37 37 h (zeros 80) from laid2 w 37 37 h (zeros 80))
  have ZL := hide (zeros_len 80)
  have HH := hide hh
  have HL := hide hl
  have F_ := hide (kpFill_start h b hh)
  have hz := zero_arr z80
  have F := hide (show ∀ w', w.grownBy w' none → KepE w (kpL h b) (kpE b) (.returned (.tuple #[.agg (arrI (kpA h b)), .int .i64 0])) w' from fun w' g => ⟨by rw [(kpL_yes (h := h) hl).1, (kpL_yes (h := h) hl).2], g⟩)
  clear hl hh
  generalize KepE w (kpL h b) (kpE b) = T at *
  generalize zeros 80 = Z at *
  go_enter Try.func12, Try.ntmps12
  go_upto_region 3 with fail
  generalize (w.alloc (.cells (arrI h) 37)).alloc (.cells (arrI Z) 37) = W0 at *
  clear hz
  refine wp_region_held_drew (S := GrownW w) (by kernel_rfl) (grown_drew M0.out.2.2) (fun hHeld => ?_)
  refine wpAnyH_take (i := 0) (v := .slice (some ⟨w.heap.size, 0, none⟩) 80 80) rfl (by kernel_rfl) (by kernel_rfl) (by kernel_rfl) (fun _ _ _ h => h) (Or.inl ⟨by rfl, ?ykp0⟩) hHeld ?rkp0
  case ykp0 => (intro w' hSw; go_simp; (try with_reducible rfl))
  (try simp only [Act.put, sL])
  refine wpAnyH_take (i := 1) (v := .slice (some ⟨w.heap.size, 40, none⟩) 40 40) rfl (by kernel_rfl) (by kernel_rfl) (by kernel_rfl) (fun _ _ _ h => h) (Or.inl ⟨by rfl, ?ykp1⟩) hHeld ?rkp1
  case ykp1 => (intro w' hSw; go_simp; (try with_reducible rfl))
  (try simp only [Act.put, sL])
  refine wpAnyH_ready (rs := [2]) (by kernel_rfl) (by simp) (AllReadyH.cons rfl (fun K hK => ?_) AllReadyH.nil)
  (try simp only [Act.put, sL])
  refine step_copyK rfl _ _ rfl w.heap.size 0 80 40 80 40 37 h (prt h 40 40) ⟨w.heap.size, 40, none⟩ (M0.out.1.keep (gw_start W0)) rfl rfl (prt_len _ _ _) (by omega) (fun j hj => by rw [Addr.add_mid, prt_nth _ _ _ _ hj]; exact (M0.out.1.keep (gw_start W0)).cell (40 + j) (by rw [HH.out]; omega)) (by rw [HH.out]; omega) ?_
  intro w1 b1 g1
  have B1 := hide b1
  have BB := hide ((M0.out.2.1.keep (gw_start W0)).keepBut g1 (by omega))
  have GM := hide (grown_own hHeld g1 (Nat.le_refl _))
  clear b1 g1 M0 hHeld
  refine hK.out _ _ GM.out (fun hHeld => ?_)
  clear hK
  (try simp only [Act.put, sL])
  refine wpAnyH_take (i := 3) (v := ?vkp3) rfl (by kernel_rfl) (by kernel_rfl) (by kernel_rfl) (fun _ _ _ h => h) (Or.inl ⟨by rfl, ?ykp3⟩) hHeld ?rkp3
  case ykp3 => (intro w' hSw; go_simp; (try with_reducible rfl))
  (try simp only [Act.put, sL])
  refine wpAnyH_done (by kernel_rfl) ?_ _
  have M1 := hide (show Mem2 w w1 37 37 (splI h 0 (prt h 40 40)) Z from ⟨B1.out, BB.out, GM.out⟩)
  clear B1 BB GM hHeld
  generalize splI h 0 (prt h 40 40) = H0 at *
  rw [show goInt ((40 : Nat) : Int) = .int .i64 40 from rfl]
  go_wp2_with fail
  go_loopw [18] (fun i wr => ∃ (m : Nat) (rs : List Int), i = .int .i64 (m : Int) ∧ m ≤ 40 ∧ Hid (FillN 80 (kpN h b) (40 + m) rs) ∧ Hid (Mem2 w wr 37 37 rs Z)) (fun i _ => 40 - (intOf i).toNat)
  case atStart => exact ⟨0, H0, rfl, Nat.zero_le _, F_.out, M1.out⟩
  case round =>
    obtain ⟨m, rs, rfl, hm, hF, hM⟩ := hrel
    clear M1 F_
    by_cases hm40 : m < 40
    · have i1 : (m : Int) < 40 := by omega
      have rl := hF.out.1
      obtain ⟨a, rfl, cx⟩ := Ints_cell (IV.out wr hM.out.2.2) m (by rw [HL.out]; omega)
      have cd := hM.out.1.cell (40 + m) (by omega)
      have fd := hM.out.1.free (40 + m)
      have NF := hide (fillN_step hF.out (show 40 + m < 80 by omega))
      have EK : kpN h b (40 + m) = c16 (nth b m) := by unfold kpN; rw [if_neg (by omega), show 40 + m - 40 = m by omega]
      rw [EK] at NF
      have NM := hide (hM.out.set1 (40 + m) (c16 (nth b m)))
      have RS := hide (conStopped_any (nth b m) wr)
      clear hF hM IV EK rl
      generalize hk : 40 + m = k at *
      have i3 : (40 : Int) + (m : Int) = (k : Int) := by omega
      have i4 : (k : Int) < 80 := by omega
      have HK := hide hk
      clear hk
      generalize nth b m = x at *
      generalize c16 x = z at *
      generalize nth rs k = y at *
      go_wp2_with fail
      refine RS.out.mono ?_
      rintro e w1 ⟨rfl, rfl⟩
      clear RS
      go_wp2_with fail
      go_roundw
      case rel => exact ⟨m + 1, _, by go_num, by omega, by rw [show 40 + (m + 1) = k + 1 by have := HK.out; omega]; exact NF.out, NM.out⟩
      case measure => first | (simp [intOf]; done) | (simp [intOf]; omega)
    · obtain rfl : m = 40 := by omega
      rw [show ((40 : Nat) : Int) = 40 from rfl]
      have ers : rs = kpA h b := fillN_all hF.out
      subst ers
      have PU := hM.out.put2 (b' := kpA h b) (by rw [kpA_len, ZL.out])
      have PB := hide PU.1
      have FF := hide (F.out _ PU.2)
      have KL := hide (kpA_len h b)
      have HM := hide hM.out
      clear hF hM PU IV F
      generalize kpA h b = R at *
      go_wp2_with (first | refine wpList_load_arr rfl 37 _ rfl _ rfl _ HM.out.1 _ Try.underlying37 rfl (by rw [KL.out]; exact size80c) ?_ | refine wpList_store_arr rfl 37 _ _ rfl _ Z R rfl rfl HM.out.2.1 (by rw [KL.out, ZL.out]) (by rw [ZL.out]; exact size80c) ?_)
      have hlv := loadVar_arr PB.out _ Try.underlying37 rfl (by rw [KL.out]; exact size80c)
      refine bodyPost_ret (v := .tuple #[.agg (arrI R), .int .i64 0]) ?_ rfl FF.out
      simp [results, Try.results12, asAddr, Act.put, hlv]
theorem conKeep_any (h : List Int) (v : Value) (b : List Int) (w : World) (hh : h.length = 80) (hv : Ints w v b) (hl2 : b.length ≤ 1000000000000000000) :
    Calls Try.prog 12 #[.agg (arrI h), v] w (KepE w (kpL h b) (kpE b)) := by
  by_cases hl : b.length = 40
  · exact conKeep_yes h v b w hh hv hl
  · exact conKeep_no h v b w hh hv hl hl2
end Go.Proofs.Ytekdgohomaeeeab

/- LCnP -/
namespace Go.Proofs.Ytekdgohomaeeeab
open Go.RowKit
set_option linter.unusedVariables false
theorem win_pulMemory (W : World) (vd : Value) (d : List Int) (hi : Ints W vd d) (hl : d.length * 8 ≤ 140737488351232) (hd64 : In64 d) (hsd : Shp vd d) (vr : Value) (r : List Int) (hr : Ints W vr r) (hlr : r.length * 8 ≤ 140737488351232) (hr64 : In64 r) (hsr : Shp vr r) : Calls Try.prog 3 #[vd, vr] W fun e w' => e = .returned (.bool true) ∧ Below W.heap.size W w' :=
  law_pulMemory W (fun h lag g v b wr hh h64 hl hg hb gr hv hs => conMix_any h lag g v b wr hh hv hs) (fun h v b wr hh h64 hb gr hv hs => conKeep_any h v b wr hh hv hs) vd d hi hl hd64 hsd vr r hr hlr hr64 hsr
end Go.Proofs.Ytekdgohomaeeeab

/- Opens -/
namespace Go.Proofs.Ytekdgohomaeeeab
set_option maxRecDepth 100000
open Go.ChangeShapes Go.WideShapes Go.ChangeAt Go.RowKit
set_option linter.unusedVariables false
set_option linter.unusedSimpArgs false
theorem o_own : ownKnob Try.prog.godebug = none := by kernel_rfl
theorem o_laidOut : laidOutB Try.prog = true := by kernel_rfl
theorem o_cellsInt : Try.prog.cellsOf 3 = 1 := by kernel_rfl
theorem o_bytesInt : Try.prog.bytesOf 3 = 8 := by kernel_rfl
theorem open_list {H : Type} {enc : TypeId × Value → H} {W : World} {base : Nat} {v : Value} {d : DataW H} {p : List MemPlace} {ts : List TypeId} {ds : List (DataW H)} {j : Nat}
    (hv : Value.okWide Try.prog W .any base 22 v) (h : DataW.Trod enc Try.prog W 0 (fun _ => true) true 22 v d p) (hsz : (DataW.weightsEach Try.prog ts ds).all (· ≤ reachBytes) = true) (ht : ts[j]? = some 22) (hd : ds[j]? = some d) :
    ∃ l : List Int, Ints W v l ∧ l.length * 8 ≤ 140737488351232 ∧ In64 l ∧ (v = .slice none 0 0 ∨ ∃ a c, v = .slice (some a) l.length c) := by
  obtain ⟨a0, len, cap, rfl⟩ := okWide_slice Try.underlying22 hv
  obtain ⟨fuel, hf⟩ := h
  rcases open_ints Try.underlying22 Try.underlying3 o_cellsInt hf with ⟨hcs, hx⟩ | ⟨a, len', cap', zs, hcs, _, hl, hm, hz, hx, hcell, hwz⟩
  · simp [Value.cells] at hcs
    obtain ⟨rfl, rfl, rfl⟩ := hcs
    exact ⟨[], ⟨none, 0, rfl, Nat.le_refl _, fun h => by simp at h⟩, by simp, fun i => by simp [nth], .inl rfl⟩
  · simp [Value.cells] at hcs
    obtain ⟨rfl, rfl, rfl⟩ := hcs
    simp only [Prod.mk.injEq] at hx
    obtain ⟨rfl, rfl⟩ := hx
    simp at hz
    have hs := sized_slice hsz ht hd Try.underlying22
    rw [o_bytesInt] at hs
    simp only [lits, List.length_map, List.length_take, List.length_drop, reachBytes] at hs
    have e : (zs.take len).length = len := by simp; omega
    refine ⟨zs.take len, ⟨some a, cap, by rw [e], by rw [e]; exact hl, fun _ => ⟨a, rfl, fun i hi => ?_⟩⟩, by rw [e]; omega, fun i => ?_, .inr ⟨a, cap, by rw [e]⟩⟩
    · rw [e] at hi
      rw [hcell i (by omega)]
      simp [nth, List.getD, List.getElem?_take, hi]
    · by_cases hi : i < (zs.take len).length
      · have hw := hwz ((zs.take len)[i]) (List.mem_of_mem_take (List.getElem_mem hi))
        have := bounds_i64 hw
        rw [show nth (zs.take len) i = (zs.take len)[i] by unfold nth; rw [List.getD, List.getElem?_eq_getElem hi]; rfl]
        exact this
      · rw [getD_out _ i (by omega)]; omega
end Go.Proofs.Ytekdgohomaeeeab
