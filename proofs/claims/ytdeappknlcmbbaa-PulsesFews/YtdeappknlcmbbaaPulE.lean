/- Contracts of package pulses' best, whatever walk is handed in. -/
import Derived.Test.YtdeappknlcmbbaaPulD
import Derived.Test.YtdeappknlcmbbaaBtrG
import Derived.BigQuiet
import Derived.Deep.QuietTactic
namespace Go.Proofs.Ytdeappknlcmbbaa
open Go.RowKit
set_option linter.unusedVariables false
set_option linter.unusedSimpArgs false
set_option maxHeartbeats 1000000

theorem Frm.low {base : Nat} {a b c : World} {i : Nat} (h : Frm base a b) (k : b.grownBy c (some i)) (hi : i < base) : Frm base a c :=
  ⟨k.os.trans h.os, k.tape.trans h.tape, k.output.trans h.output, Nat.le_trans h.size k.size, fun j hj hs => (k.block j (Nat.lt_of_lt_of_le hs h.size) (fun e => by cases e; omega)).trans (h.block j hj hs)⟩
def kepL (s : List Int × Int × Int) : List Int := s.1 ++ [s.2.1, s.2.2]
/-- Memory of best: the list, the table, the answer, what is kept, and whether it is the first one. -/
def BsM (w0 : World) (vd : Value) (B : Nat) (s : List Int) (f : Bool) (wr : World) : Prop :=
  w0.grownBy wr none ∧ wr.heap[w0.heap.size]? = some (.cells #[vd] 26 (0, 0)) ∧ wr.heap[w0.heap.size + 1]? = some (.cells #[.pointer (some ⟨B, 0, none⟩)] 49 (0, 0)) ∧ Blk wr (w0.heap.size + 1 + 1) 22 (zeros 4) ∧ Blk wr (w0.heap.size + 1 + 1 + 1) 52 s ∧ wr.heap[w0.heap.size + 1 + 1 + 1 + 1]? = some (.cells #[.bool f] 4 (0, 0))
theorem BsM.more {w0 : World} {vd : Value} {B : Nat} {s : List Int} {f : Bool} {wr wr' : World} {r : Option Nat} (h : BsM w0 vd B s f wr) (g : wr.grownBy wr' r) (hr : ∀ b, r = some b → w0.heap.size + 5 ≤ b) : BsM w0 vd B s f wr' := by
  obtain ⟨h1, h2, h3, h4, h5, h6⟩ := h
  exact ⟨grown_own' h1 g (fun b e => by have := hr b e; omega), heap_grown h2 g (fun e => by have := hr _ e.symm; omega), heap_grown h3 g (fun e => by have := hr _ e.symm; omega), heap_grown h4 g (fun e => by have := hr _ e.symm; omega), heap_grown h5 g (fun e => by have := hr _ e.symm; omega), heap_grown h6 g (fun e => by have := hr _ e.symm; omega)⟩
theorem BsM.keep {w0 : World} {vd : Value} {B : Nat} {s : List Int} {f : Bool} {wr wr' : World} (h : BsM w0 vd B s f wr) (g : wr.grownBy wr' none) : BsM w0 vd B s f wr' := h.more g (fun b e => by cases e)
theorem BsM.put {w0 : World} {vd : Value} {B : Nat} {s s' : List Int} {f : Bool} {wr : World} (h : BsM w0 vd B s f wr) (hl : s'.length = s.length) : BsM w0 vd B s' f (putArr wr (w0.heap.size + 1 + 1 + 1) s') := by
  obtain ⟨h1, h2, h3, h4, h5, h6⟩ := h
  have PU := put_arr (rs' := s') h5 hl
  exact ⟨grown_own h1 PU.2 (by omega), heap_grown h2 PU.2 (fun e => by have := Option.some.inj e; (try dsimp only at this); omega), heap_grown h3 PU.2 (fun e => by have := Option.some.inj e; (try dsimp only at this); omega), heap_grown h4 PU.2 (fun e => by have := Option.some.inj e; (try dsimp only at this); omega), PU.1, heap_grown h6 PU.2 (fun e => by have := Option.some.inj e; (try dsimp only at this); omega)⟩
theorem BsM.flag {w0 : World} {vd : Value} {B : Nat} {s : List Int} {f : Bool} {wr : World} (h : BsM w0 vd B s f wr) (v : Bool) : BsM w0 vd B s v (wr.setCell ⟨w0.heap.size + 1 + 1 + 1 + 1, 0, none⟩ (.bool v)) := by
  obtain ⟨h1, h2, h3, h4, h5, h6⟩ := h
  have g := grown_setCell wr ⟨w0.heap.size + 1 + 1 + 1 + 1, 0, none⟩ (.bool v)
  refine ⟨grown_own h1 g (by simp; omega), heap_grown h2 g (fun e => by have := Option.some.inj e; (try dsimp only at this); omega), heap_grown h3 g (fun e => by have := Option.some.inj e; (try dsimp only at this); omega), heap_grown h4 g (fun e => by have := Option.some.inj e; (try dsimp only at this); omega), heap_grown h5 g (fun e => by have := Option.some.inj e; (try dsimp only at this); omega), ?_⟩
  rw [heap_setCell h6]
  rfl
def BsI (w0 : World) (vd : Value) (B : Nat) (C E : List Int → Int) (ix : Nat → List Int) (m : Nat) (wr : World) : Prop := BsM w0 vd B (kepL (bsS C E ix m)) (decide (m = 0)) wr
theorem cS_bd (d x : List Int) : cS d x ≤ 9223372036854775807 := by
  show wrap64 _ ≤ _
  unfold wrap64
  omega
theorem eS_bd (d r x : List Int) : eS d r x ≤ 9223372036854775807 := by
  have := scE_bd d r x 4 0 (by omega) (by omega)
  unfold eS
  omega
theorem bsS_len (C E : List Int → Int) (ix : Nat → List Int) (N : Nat) (hix : ∀ m, m < N → (ix m).length = 4) : ∀ m, m ≤ N → (bsS C E ix m).1.length = 4
  | 0, _ => rfl
  | m + 1, hm => by
    obtain ⟨j, hj, e⟩ := bsS_own C E ix (m + 1) (by omega)
    rw [e]
    exact hix j (by omega)
set_option maxRecDepth 100000 in
theorem pulBest1_any (w0 : World) (vd : Value) (B : Nat) (d r : List Int) (ix : Nat → List Int) (N : Nat) (hd : Ints w0 vd d) (hdl : d.length = 40) (hB : Blk w0 B 73 (tbl r)) (hix : ∀ m, m < N → (ix m).length = 4 ∧ goodX (ix m) = true)
    (m : Nat) (wr : World) (hm : m < N) (hsz : w0.heap.size + 5 ≤ wr.heap.size) (hI : BsI w0 vd B (cS d) (eS d r) ix m wr) :
    Calls Try.prog 56 #[.agg (arrI (ix m)), .pointer (some ⟨w0.heap.size, 0, none⟩), .pointer (some ⟨w0.heap.size + 1, 0, none⟩), .pointer (some ⟨w0.heap.size + 1 + 1 + 1 + 1, 0, none⟩), .pointer (some ⟨w0.heap.size + 1 + 1 + 1, 0, none⟩)] wr fun e w' => e = .returned (.tuple #[]) ∧ BsI w0 vd B (cS d) (eS d r) ix (m + 1) w' ∧ Frm (w0.heap.size + 5) wr w' := by
  obtain ⟨hx, hg⟩ := hix m hm
  have ga := grown_alloc wr (.cells (arrI (ix m)) 22) none
  have M1 := hide (BsM.keep hI ga)
  have F1 := hide (Frm.of (base := w0.heap.size + 5) ga)
  have BX := hide (Blk.new wr 22 (ix m))
  have SC := hide (fun W (g : w0.grownBy W none) => pulScored_any vd d r (ix m) B W (Ints_keep hd g) hdl (hB.keep g) hx hg)
  have LK := hide (bsS_len (cS d) (eS d r) ix N (fun j hj => (hix j hj).1) m (by omega))
  have NX := hide (show m = 0 ∨ btr (cS d (ix m)) (eS d r (ix m)) (bsS (cS d) (eS d r) ix m).2.1 (bsS (cS d) (eS d r) ix m).2.2 = true → bsS (cS d) (eS d r) ix (m + 1) = (ix m, cS d (ix m), eS d r (ix m)) from bsS_yes _ _ _ _)
  have NN := hide (show ¬ (m = 0 ∨ btr (cS d (ix m)) (eS d r (ix m)) (bsS (cS d) (eS d r) ix m).2.1 (bsS (cS d) (eS d r) ix m).2.2 = true) → bsS (cS d) (eS d r) ix (m + 1) = bsS (cS d) (eS d r) ix m from bsS_no _ _ _ _)
  have KB := hide (show 0 < m → (bsS (cS d) (eS d r) ix m).2.1 ≤ 9223372036854775807 ∧ (bsS (cS d) (eS d r) ix m).2.2 ≤ 9223372036854775807 from fun h => by
    obtain ⟨j, _, e⟩ := bsS_own (cS d) (eS d r) ix m h
    rw [e]
    exact ⟨cS_bd _ _, eS_bd _ _ _⟩)
  have hcb := cS_bd d (ix m)
  have heb := eS_bd d r (ix m)
  have FIN := hide (show ∀ w' v, bsS (cS d) (eS d r) ix (m + 1) = v → BsM w0 vd B (kepL v) false w' → BsI w0 vd B (cS d) (eS d r) ix (m + 1) w' from fun w' v e h => by unfold BsI; rw [e]; simpa using h)
  have hz := zero_arr zCho
  obtain ⟨ad, cp, rfl, hcp, _⟩ := hd
  have CL := hide (fun c e z => cho_c (ix m) hx c e z)
  unfold BsI at hI
  clear hB hix hg hcp hdl hI ga
  generalize BsI w0 _ B (cS d) (eS d r) ix (m + 1) = Fin at *
  generalize bsS (cS d) (eS d r) ix m = ks at *
  generalize bsS (cS d) (eS d r) ix (m + 1) = ks' at *
  generalize cS d (ix m) = C at *
  generalize eS d r (ix m) = E at *
  generalize ix m = x at *
  obtain ⟨kx, kc, ke⟩ := ks
  dsimp only at NX NN KB LK
  have CK := hide (fun c e z => cho_c kx LK.out c e z)
  go_enter Try.func56, Try.ntmps56
  go_upto_region 1 with fail
  generalize wr.alloc (.cells (arrI x) 22) = W1 at *
  have cd : W1.cell? ⟨w0.heap.size, 0, none⟩ = some (.slice ad d.length cp) := (cell_of_heap M1.out.2.1 0).trans rfl
  have cb : W1.cell? ⟨w0.heap.size + 1, 0, none⟩ = some (.pointer (some ⟨B, 0, none⟩)) := (cell_of_heap M1.out.2.2.1 0).trans rfl
  have SS := hide (SC.out W1 M1.out.1)
  go_wp2_with (first | refine wpList_load_arr rfl 22 _ rfl _ rfl _ BX.out _ Try.underlying22 rfl (by rw [hx]; exact size4) ?_)
  refine SS.out.mono ?_
  rintro e w2 ⟨rfl, g2⟩
  have hX := (CL.out C E 0).2.2.2.2
  have x4 := (CL.out C E 0).2.2.1
  have x5 := (CL.out C E 0).2.2.2.1
  have FA := fresh_arr w2 52 6 (x ++ [C, E]) hX
  have BZ := hide FA.1
  have M3 := hide ((M1.out.keep g2).keep FA.2.2)
  have F3 := hide ((F1.out.trans (Frm.of g2)).trans (Frm.of FA.2.2))
  have BA := hide FA.2.1
  have EX := hide (show x ++ [C, E] = kepL (x, C, E) from rfl)
  clear SS SC g2 FA cd cb M1 F1 BX
  have HX := hide hX
  clear hX
  go_upto_region 2 with (first | refine wpList_store_arr rfl 52 _ _ rfl _ (zeros 6) (x ++ [C, E]) rfl rfl BZ.out (by rw [HX.out, zeros_len]) (by rw [zeros_len]; exact sCho) ?_)
  (try simp only [Act.put])
  clear BZ hz
  generalize putArr (w2.alloc _) w2.heap.size (x ++ [C, E]) = W3 at *
  generalize w2.heap.size = b6 at *
  have q4 := BA.out.cell 4 (by rw [HX.out]; omega)
  have q5 := BA.out.cell 5 (by rw [HX.out]; omega)
  rw [x4] at q4
  rw [x5] at q5
  clear x4 x5
  have cf := (cell_of_heap M3.out.2.2.2.2.2 0).trans (show (#[Value.bool (decide (m = 0))] : Array Value)[0]? = some (.bool (decide (m = 0))) from rfl)
  have ff := frozen_of_heap M3.out.2.2.2.2.2 0
  have BK := hide M3.out.2.2.2.2.1
  have hK6 := (CK.out kc ke 0).2.2.2.2
  rw [show kepL (kx, kc, ke) = kx ++ [kc, ke] from rfl] at BK M3
  have MP := hide (M3.out.put (s' := x ++ [C, E]) (by rw [HX.out, hK6]))
  have FP := hide (F3.out.low (put_arr (rs' := x ++ [C, E]) BK.out (by rw [HX.out, hK6])).2 (by omega))
  have HK6 := hide hK6
  by_cases h0 : m = 0
  · rw [decide_eq_true h0] at cf M3 MP
    have EN := hide (NX.out (.inl h0))
    clear NX NN KB CK h0 hK6
    go_upto_region 3 with fail
    go_upto_region 4 with (first | refine wpList_load_arr rfl 52 _ rfl _ rfl _ BA.out _ Try.underlying52 rfl (by rw [HX.out]; exact sCho) ?_ | refine wpList_store_arr rfl 52 _ _ rfl _ (kx ++ [kc, ke]) (x ++ [C, E]) rfl rfl BK.out (by rw [HX.out, HK6.out]) (by rw [HK6.out]; exact sCho) ?_)
    (try simp only [Act.put])
    clear BA BK q4 q5 cf ff M3 F3
    generalize putArr W3 _ (x ++ [C, E]) = W4 at *
    have cf := (cell_of_heap MP.out.2.2.2.2.2 0).trans (show (#[Value.bool true] : Array Value)[0]? = some (.bool true) from rfl)
    have ff := frozen_of_heap MP.out.2.2.2.2.2 0
    have MF := hide (MP.out.flag false)
    have FF := hide (FP.out.low (grown_setCell W4 ⟨w0.heap.size + 1 + 1 + 1 + 1, 0, none⟩ (.bool false)) (by simp <;> omega))
    clear MP FP
    go_wp2_with fail
    go_end0
    exact ⟨rfl, FIN.out _ _ EN.out MF.out, FF.out⟩
  · rw [decide_eq_false h0] at cf M3 MP
    obtain ⟨kb1, kb2⟩ := KB.out (by omega)
    have r4 := BK.out.cell 4 (by omega)
    have r5 := BK.out.cell 5 (by omega)
    rw [(CK.out kc ke 0).2.2.1] at r4
    rw [(CK.out kc ke 0).2.2.2.1] at r5
    have BT := hide (betterG_any C E kc ke hcb heb kb1 kb2 W3)
    rcases hb : btr C E kc ke with _ | _
    · rw [hb] at BT
      have EN := hide (NN.out (fun h => by rcases h with h | h; exact h0 h; rw [hb] at h; cases h))
      clear NX NN KB CK h0 hK6 hb MP FP
      go_wp2_with fail
      refine BT.out.mono ?_
      rintro e w7 ⟨rfl, g7⟩
      have M7 := hide (M3.out.keep g7)
      have F7 := hide (F3.out.trans (Frm.of g7))
      clear g7 BT M3 F3 BA BK q4 q5 r4 r5 cf ff
      have cf := (cell_of_heap M7.out.2.2.2.2.2 0).trans (show (#[Value.bool false] : Array Value)[0]? = some (.bool false) from rfl)
      have ff := frozen_of_heap M7.out.2.2.2.2.2 0
      have MF := hide (M7.out.flag false)
      have FF := hide (F7.out.low (grown_setCell w7 ⟨w0.heap.size + 1 + 1 + 1 + 1, 0, none⟩ (.bool false)) (by simp <;> omega))
      clear M7 F7
      go_wp2_with fail
      go_end0
      exact ⟨rfl, FIN.out _ _ EN.out MF.out, FF.out⟩
    · rw [hb] at BT
      have EN := hide (NX.out (.inr hb))
      clear NX NN KB CK h0 hK6 hb MP FP
      go_wp2_with fail
      refine BT.out.mono ?_
      rintro e w7 ⟨rfl, g7⟩
      have M7 := hide (M3.out.keep g7)
      have F7 := hide (F3.out.trans (Frm.of g7))
      have BA7 := hide (BA.out.keep g7)
      have BK7 := hide (BK.out.keep g7)
      have MP := hide (M7.out.put (s' := x ++ [C, E]) (by rw [HX.out, HK6.out]))
      have FP := hide (F7.out.low (put_arr (rs' := x ++ [C, E]) BK7.out (by rw [HX.out, HK6.out])).2 (by omega))
      clear g7 BT M3 F3 BA BK q4 q5 r4 r5 cf ff M7 F7
      go_upto_region 3 with fail
      go_upto_region 4 with (first | refine wpList_load_arr rfl 52 _ rfl _ rfl _ BA7.out _ Try.underlying52 rfl (by rw [HX.out]; exact sCho) ?_ | refine wpList_store_arr rfl 52 _ _ rfl _ (kx ++ [kc, ke]) (x ++ [C, E]) rfl rfl BK7.out (by rw [HX.out, HK6.out]) (by rw [HK6.out]; exact sCho) ?_)
      (try simp only [Act.put])
      clear BA7 BK7
      generalize putArr w7 _ (x ++ [C, E]) = W4 at *
      have cf := (cell_of_heap MP.out.2.2.2.2.2 0).trans (show (#[Value.bool false] : Array Value)[0]? = some (.bool false) from rfl)
      have ff := frozen_of_heap MP.out.2.2.2.2.2 0
      have MF := hide (MP.out.flag false)
      have FF := hide (FP.out.low (grown_setCell W4 ⟨w0.heap.size + 1 + 1 + 1 + 1, 0, none⟩ (.bool false)) (by simp <;> omega))
      clear MP FP
      go_wp2_with fail
      go_end0
      exact ⟨rfl, FIN.out _ _ EN.out MF.out, FF.out⟩
theorem enters_best1 (args : Array Value) (u : World) : (callFunc 56 args).run Try.prog u = .ok (.enter 56 args) u := by kernel_rfl
/-- What a walk that is handed in does: it calls what it is handed with places in their order. -/
def Walks (w0 : World) (nW : Nat) (capsW : Array Value) (ix : Nat → List Int) (N : Nat) : Prop :=
  ∀ (wr : World) (base nV : Nat) (capsV : Array Value) (Inv : Nat → World → Prop), w0.grownBy wr none → (∀ args u, (callFunc nV args).run Try.prog u = .ok (.enter nV args) u) → Stab base Inv → Vis base nV capsV Inv ix N → base ≤ wr.heap.size → Inv 0 wr →
    Calls Try.prog nW (#[.func (.func nV) #[] capsV] ++ capsW) wr fun e w' => e = .returned (.tuple #[]) ∧ Inv N w' ∧ Frm base wr w'
/-- The first numbers of a block, as an array. -/
theorem wpList_load_pre {ops : Array Oper} {rest : List Oper} {op : Oper} {a : Act} {w : World} {Q : Exit → Act → World → Prop} (hgd : op.guard = none) (T T' : TypeId) (x : Operand) (ho : op.op = .load T x)
    (b : Nat) (hx : a.eval x = .pointer (some ⟨b, 0, none⟩)) (rs qs : List Int) (h : Blk w b T' (rs ++ qs)) (d : TypeDesc) (hu : Try.prog.underlying T = some d) (hd : d.isRow = true) (hi : (Try.prog.info? T).map (·.size) = some rs.length)
    (k : wpList Try.prog ops Q rest (a.put op.dst (.agg (arrI rs))) w) : wpList Try.prog ops Q (op :: rest) a w := by
  refine wpList_load_mid hgd T x ho b 0 hx (rs.map (Value.int .i64)) d (fun j v hv => h.range j v ?_) hu hd (by simpa using hi) k
  rw [List.map_append, List.getElem?_append_left]
  · exact hv
  · by_cases hj : j < (rs.map (Value.int .i64)).length
    · exact hj
    · rw [List.getElem?_eq_none (by omega)] at hv; cases hv
theorem zArr4 : (Try.prog.info? 22).bind (·.zero) = some (.agg (arrI (zeros 4))) := by kernel_rfl
set_option maxRecDepth 100000 in
theorem pulBest_any (vd : Value) (B : Nat) (d r : List Int) (ix : Nat → List Int) (N : Nat) (w : World) (hd : Ints w vd d) (hdl : d.length = 40) (hB : Blk w B 73 (tbl r)) (hix : ∀ m, m < N → (ix m).length = 4 ∧ goodX (ix m) = true)
    (nW : Nat) (capsW : Array Value) (hen : ∀ args u, (callFunc nW args).run Try.prog u = .ok (.enter nW args) u) (hW : Walks w nW capsW ix N) :
    Calls Try.prog 40 #[vd, .pointer (some ⟨B, 0, none⟩), .func (.func nW) #[] capsW] w (AnsG w (.agg (arrI (bsS (cS d) (eS d r) ix N).1))) := by
  have hmf : ∀ (fn : Fn) (first cap : Array Value) (w : World), (Instr.makeFunc fn first cap).run Try.prog w = .ok (.func fn first cap) w := fun _ _ _ _ => rfl
  have hz4 := zero_arr zArr4
  have hz6 := zero_arr zCho
  have LEN := hide (bsS_len (cS d) (eS d r) ix N (fun j hj => (hix j hj).1) N (Nat.le_refl _))
  have VIS := hide (show Vis (w.heap.size + 5) 56 #[.pointer (some ⟨w.heap.size, 0, none⟩), .pointer (some ⟨w.heap.size + 1, 0, none⟩), .pointer (some ⟨w.heap.size + 1 + 1 + 1 + 1, 0, none⟩), .pointer (some ⟨w.heap.size + 1 + 1 + 1, 0, none⟩)] (BsI w vd B (cS d) (eS d r) ix) ix N from
    fun m wr hm hs hI => pulBest1_any w vd B d r ix N hd hdl hB hix m wr hm hs hI)
  have STB := hide (show Stab (w.heap.size + 5) (BsI w vd B (cS d) (eS d r) ix) from fun m wr wr' r h g hr => BsM.more h g hr)
  have WK := hide (fun wr (g : w.grownBy wr none) (hs : w.heap.size + 5 ≤ wr.heap.size) (hI : BsI w vd B (cS d) (eS d r) ix 0 wr) => hW wr (w.heap.size + 5) 56 _ _ g enters_best1 STB.out VIS.out hs hI)
  obtain ⟨ad, cp, rfl, hcp, _⟩ := hd
  have L := hide (show BsI w (.slice ad d.length cp) B (cS d) (eS d r) ix 0 (((((w.alloc (.cells #[.slice ad d.length cp] 26)).alloc (.cells #[.pointer (some ⟨B, 0, none⟩)] 49)).alloc (.cells (arrI (zeros 4)) 22)).alloc (.cells (arrI (zeros 6)) 52)).alloc (.cells #[.bool true] 4)) ∧ w.heap.size + 5 ≤ (((((w.alloc (.cells #[.slice ad d.length cp] 26)).alloc (.cells #[.pointer (some ⟨B, 0, none⟩)] 49)).alloc (.cells (arrI (zeros 4)) 22)).alloc (.cells (arrI (zeros 6)) 52)).alloc (.cells #[.bool true] 4)).heap.size from by
    have g1 := grown_alloc w (.cells #[.slice ad d.length cp] 26) none
    have h1 := heap_new w (.cells #[.slice ad d.length cp] 26)
    generalize hw1 : w.alloc (.cells #[.slice ad d.length cp] 26) = w1 at *
    have s1 : w1.heap.size = w.heap.size + 1 := by rw [← hw1]; simp
    have g2 := grown_alloc w1 (.cells #[.pointer (some ⟨B, 0, none⟩)] 49) none
    have h2 := heap_new w1 (.cells #[.pointer (some ⟨B, 0, none⟩)] 49)
    generalize hw2 : w1.alloc (.cells #[.pointer (some ⟨B, 0, none⟩)] 49) = w2 at *
    have s2 : w2.heap.size = w.heap.size + 1 + 1 := by rw [← hw2]; simp [s1]
    have g3 := grown_alloc w2 (.cells (arrI (zeros 4)) 22) none
    have h3 := Blk.new w2 22 (zeros 4)
    generalize hw3 : w2.alloc (.cells (arrI (zeros 4)) 22) = w3 at *
    have s3 : w3.heap.size = w.heap.size + 1 + 1 + 1 := by rw [← hw3]; simp [s2]
    have g4 := grown_alloc w3 (.cells (arrI (zeros 6)) 52) none
    have h4 := Blk.new w3 52 (zeros 6)
    generalize hw4 : w3.alloc (.cells (arrI (zeros 6)) 52) = w4 at *
    have s4 : w4.heap.size = w.heap.size + 1 + 1 + 1 + 1 := by rw [← hw4]; simp [s3]
    have g5 := grown_alloc w4 (.cells #[.bool true] 4) none
    have h5 := heap_new w4 (.cells #[.bool true] 4)
    have s5 : (w4.alloc (.cells #[.bool true] 4)).heap.size = w.heap.size + 1 + 1 + 1 + 1 + 1 := by simp [s4]
    rw [s1] at h2
    rw [s2] at h3
    rw [s3] at h4
    rw [s4] at h5
    refine ⟨⟨grown_none (grown_none (grown_none (grown_none g1 g2) g3) g4) g5, ?_, ?_, ?_, h4.keep g5, h5⟩, by omega⟩
    · exact heap_grown (heap_grown (heap_grown (heap_grown h1 g2 (by simp)) g3 (by simp)) g4 (by simp)) g5 (by simp)
    · exact heap_grown (heap_grown (heap_grown h2 g3 (by simp)) g4 (by simp)) g5 (by simp)
    · exact (h3.keep g4).keep g5)
  clear VIS STB hW hix hcp hB hdl
  go_enter Try.func40, Try.ntmps40
  go_upto_region 3 with fail
  generalize ((((w.alloc _).alloc _).alloc _).alloc _).alloc _ = W1 at *
  go_wp2_with fail
  refine (WK.out W1 L.out.1.1 L.out.2 L.out.1).mono ?_
  rintro e w2 ⟨rfl, j2, f2⟩
  have M2 := hide j2
  unfold BsI at M2
  clear j2 f2 WK L hmf hz4 hz6 hen
  generalize bsS (cS d) (eS d r) ix N = ks at *
  obtain ⟨kx, kc, ke⟩ := ks
  dsimp only at LEN ⊢
  have BK := hide M2.out.2.2.2.2.1
  rw [show kepL (kx, kc, ke) = kx ++ [kc, ke] from rfl] at BK
  have BZ := hide M2.out.2.2.2.1
  have GG := hide M2.out.1
  clear M2
  go_wp2_with (first | refine wpList_load_pre rfl 22 52 _ rfl _ rfl kx [kc, ke] BK.out _ Try.underlying22 rfl (by rw [LEN.out]; exact size4) ?_ | refine wpList_store_arr rfl 22 _ _ rfl _ (zeros 4) kx rfl rfl BZ.out (by rw [LEN.out, zeros_len]) (by rw [zeros_len]; exact size4) ?_)
  have PU := put_arr (rs' := kx) BZ.out (by rw [LEN.out, zeros_len])
  have hlv := loadVar_arr PU.1 _ Try.underlying22 rfl (by rw [LEN.out]; exact size4)
  have GF := hide (grown_own GG.out PU.2 (by omega))
  refine bodyPost_ret (v := .agg (arrI kx)) ?_ rfl ⟨rfl, GF.out⟩
  simp [results, Try.results40, asAddr, Act.put, hlv]
end Go.Proofs.Ytdeappknlcmbbaa
