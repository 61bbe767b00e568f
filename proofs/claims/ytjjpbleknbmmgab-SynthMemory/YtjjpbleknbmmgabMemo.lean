/- Contracts of the statements' own roomy, scribble, stayed. -/
import Derived.Test.YtjjpbleknbmmgabKeepL
import Derived.Laws.CopyOwn
namespace Go.Proofs.Ytjjpbleknbmmgab
open Go.RowKit
set_option linter.unusedVariables false
set_option linter.unusedSimpArgs false
set_option maxHeartbeats 1000000

/-- 'append(a, b...)', a of the call's own, b not empty: the answer lies in a's block or in a new one. -/
theorem run_app {w : World} {base : Nat} {v vb : Value} {A B : List Int} (ha : Own base w v A) (hb : Ints w vb B) (hB : 0 < B.length) (hl : (A.length + B.length) * 8 ≤ 140737488355328) (hbase : base ≤ w.heap.size) (ty : TypeId) :
    ∃ v' w', Sem.run Try.prog (Builtin.append_ #[24, 24] ty #[v, vb]) w = .ok v' w' ∧ Own base w' v' (A ++ B) ∧ w.grownBy w' v.ownBlock ∧ ∀ g', v'.ownBlock = some g' → v.ownBlock = some g' ∨ w.heap.size ≤ g' := by
  obtain ⟨i0, hi, hz0, hz1, hz2⟩ := info_parts infoI64
  obtain ⟨ad, c, rfl, hc, hv⟩ := hb
  obtain ⟨ab, rfl, hcell⟩ := hv hB
  have hnews : ∀ j u, (B.map (Value.int .i64))[j]? = some u → w.cell? (ab.add j) = some u := fun j u hu => by
    have hj : j < B.length := by
      by_cases hj : j < B.length
      · exact hj
      · rw [List.getElem?_eq_none (by simp; omega)] at hu; cases hu
    rw [hcell j hj]
    simpa [nth, List.getD, hj] using hu
  have hone : ∀ u ∈ B.map (Value.int .i64), u.oneCell' = true := fun u hu => by
    obtain ⟨x, _, rfl⟩ := List.mem_map.1 hu
    rfl
  obtain ⟨v', w', hr, h2, h3, _⟩ := run_append_own (P := Try.prog) w base 24 ty 3 i0 (.int .i64 0) 1 8 Try.underlying24 hi hz0 hz1 hz2 rfl (by decide) v A.length _ ha ab B.length c (B.map (Value.int .i64)) (by simp) hnews hone (by unfold maxLen; omega) (by omega) hbase
  refine ⟨v', w', hr, by unfold Own; simpa using h2, h3, fun g' hg' => ?_⟩
  rcases ha.2 with ⟨rfl, hA⟩ | ⟨g, cap, cur, rfl, hbg, hg, hnc, hcm, hcs, htake⟩
  · have hA0 : A = [] := List.eq_nil_of_length_eq_zero hA
    subst hA0
    obtain ⟨v2, w2, hr2, o2, _, _⟩ := run_append_own (P := Try.prog) w w.heap.size 24 ty 3 i0 (.int .i64 0) 1 8 Try.underlying24 hi hz0 hz1 hz2 rfl (by decide) (.slice none 0 0) 0 [] (World.ownsRow_nil _ _ _ _) ab B.length c (B.map (Value.int .i64)) (by simp) hnews hone (by unfold maxLen; simp at hl; omega) (by simpa using hl) (Nat.le_refl _)
    rw [hr] at hr2
    cases hr2
    exact .inr (o2.lt g' hg').1
  · by_cases hroom : A.length + B.length ≤ cap
    · have hr2 := run_append_room (P := Try.prog) w 24 ty 3 i0 Try.underlying24 hi g A.length cap cur hg ab B.length c (B.map (Value.int .i64)) (by rw [hz1]; simp) hnews hone hroom (by rw [hz1, hcs]; simp; omega)
      rw [hr] at hr2
      cases hr2
      exact .inl hg'
    · have hr2 := run_append_grow (P := Try.prog) w 24 ty 3 i0 (.int .i64 0) Try.underlying24 hi hz0 ⟨g, 0, none⟩ A.length cap (A.map (Value.int .i64)) (by rw [hz1]; simp) (World.ownsRow.cells ha (g := g) rfl) ab B.length c (B.map (Value.int .i64)) (by rw [hz1]; simp) hnews (by omega) (by omega) (by rw [hz2]; exact growslice_fits (by omega) (by omega))
      rw [hr] at hr2
      cases hr2
      simp [Value.ownBlock] at hg'
      exact .inr (by omega)
theorem wpList_app {ops : Array Oper} {rest : List Oper} {o : Oper} {a : Act} {w : World} {Q : Exit → Act → World → Prop} (hgd : Region.wanted o (yielded ops a.tmps) = true) (s x : Operand)
    (hop : o.op = Op.call { callee := Callee.builtin Builtin.append, args := #[s, x], argTypes := #[24, 24] }) (base : Nat) (va vb : Value) (A B : List Int) (hs : a.eval s = va) (hx : a.eval x = vb) (ha : Own base w va A) (hb : Ints w vb B) (hB : 0 < B.length)
    (hl : (A.length + B.length) * 8 ≤ 140737488355328) (hbase : base ≤ w.heap.size)
    (h : ∀ v' w', Own base w' v' (A ++ B) → w.grownBy w' va.ownBlock → (∀ g', v'.ownBlock = some g' → va.ownBlock = some g' ∨ w.heap.size ≤ g') → wpList Try.prog ops Q rest (a.put o.dst v') w') : wpList Try.prog ops Q (o :: rest) a w := by
  obtain ⟨v', w', hr, h1, h2, h3⟩ := run_app ha hb hB hl hbase o.type
  refine wpList_step fun K hK => ?_
  rw [if_pos hgd]
  unfold Oper.wp
  simp [execOp, hop, resolve, invoke, builtin, hs, hx, hr, Result.andThen]
  exact hK _ _ (h v' w' h1 h2 h3)
theorem grown_some {w w' : World} {r : Option Nat} (h : w.grownBy w' r) (r' : Option Nat) (hr : ∀ g, r = some g → r' = some g ∨ w.heap.size ≤ g) : w.grownBy w' r' :=
  ⟨h.1, h.2, h.3, h.4, fun k hk hne => h.5 k hk (fun e => by rcases hr k e.symm with q | q; exact hne q.symm; omega)⟩
/-- What a scribbled list leaves: its own block alone is written. -/
def Scr (w : World) (v : Value) (e : Ending) (w' : World) : Prop := e = .returned (.tuple #[]) ∧ w.grownBy w' v.ownBlock
theorem scribble_any (base : Nat) (v : Value) (l : List Int) (w : World) (o : Own base w v l) (hl : l.length ≤ 1000) (hb : base ≤ w.heap.size) :
    Calls Try.prog 12 #[v] w (Scr w v) := by
  obtain ⟨ad, c, rfl, hc, _⟩ := o.ints
  have O0 := hide o
  have G0 := hide (grown_refl w (Value.ownBlock (.slice ad l.length c)))
  clear o
  generalize hn : l.length = n at *
  have HN := hide hn
  clear hn
  go_enter Try.func12, Try.ntmps12
  go_wp2_with fail
  go_loopw [2] (fun i wr => ∃ (k : Nat) (ls : List Int), i = .int .i64 k ∧ k ≤ n ∧ Hid (ls.length = n) ∧ Hid (Own base wr (.slice ad n c) ls) ∧ Hid (w.grownBy wr (Value.ownBlock (.slice ad n c)))) (fun i _ => n - (intOf i).toNat)
  case atStart => exact ⟨0, l, rfl, Nat.zero_le _, HN.out, O0.out, G0.out⟩
  case round =>
    obtain ⟨k, ls, rfl, hk, hL, hO, hG⟩ := hrel
    clear O0 G0
    by_cases hkn : k < n
    · obtain ⟨g, cap, e, hbg, hlt, hcap⟩ := hO.out.form (by rw [hL.out]; omega)
      simp only [Value.slice.injEq] at e
      obtain ⟨rfl, _, rfl⟩ := e
      have cd := hO.out.cell hL.out.symm k (by rw [hL.out]; omega)
      have fd := hO.out.free hL.out.symm k
      have NO := hide (hO.out.set hL.out.symm k (-99)).1
      have NG := hide (grown_trans hG.out (hO.out.set hL.out.symm k (-99)).2 (some g) (fun i e _ => e) (fun i e _ => e))
      have NL := hide (show (ls.set k (-99)).length = n by rw [List.length_set]; exact hL.out)
      have k1 : (k : Int) < n := by omega
      clear hO hG hbg hlt hcap
      generalize nth ls k = y at *
      go_wp2_with fail
      go_roundw
      case rel => exact ⟨k + 1, _, by go_num, by omega, NL.out, NO.out, NG.out⟩
      case measure => simp [intOf]; omega
    · obtain rfl : k = n := by omega
      have hs := World.grownBy.size hG.out
      have J := hide (show Ints (wr.alloc (.cells #[.int .i64 (-99), .int .i64 (-99), .int .i64 (-99)] 3)) (.slice (some ⟨wr.heap.size, 0, none⟩) 3 3) [-99, -99, -99] from Ints_of_blk (Blk.new wr 3 [-99, -99, -99]))
      have OA := hide (hO.out.keep (grown_alloc wr (.cells #[.int .i64 (-99), .int .i64 (-99), .int .i64 (-99)] 3) none))
      have GA := hide (grown_trans hG.out (grown_alloc wr (.cells #[.int .i64 (-99), .int .i64 (-99), .int .i64 (-99)] 3) none) (Value.ownBlock (.slice ad k c)) (fun i e _ => e) (fun i e _ => by cases e))
      have SA : w.heap.size ≤ (wr.alloc (.cells #[.int .i64 (-99), .int .i64 (-99), .int .i64 (-99)] 3)).heap.size := by simp; omega
      clear hO hG
      go_wp2_with (at_builtin; refine wpList_app (by rfl) _ _ rfl base _ (.slice (some ⟨wr.heap.size, 0, none⟩) 3 3) ls [-99, -99, -99] rfl rfl OA.out J.out (by decide) (by rw [hL.out]; simp; omega) (by omega) ?_)
      intro v5 w5 h5 g5 hf
      obtain ⟨g', cap', rfl, hbg, hlt, hcap⟩ := h5.form (by simp)
      have hx := hf g' rfl
      have c0 := h5.cell rfl 0 (by simp)
      have f0 := h5.free rfl 0
      have G5 := grown_trans GA.out g5 (Value.ownBlock (.slice ad k c)) (fun i e _ => e) (fun i e _ => e)
      have GF := hide (grown_trans G5 (grown_setCell w5 ⟨g', 0, none⟩ (.int .i64 (-98))) (Value.ownBlock (.slice ad k c)) (fun i e _ => e) (fun i e hi => by
        obtain rfl : g' = i := by simpa using e
        rcases hx with q | q
        · exact q
        · omega))
      have hp : 0 < (ls ++ [-99, -99, -99]).length := by simp
      clear h5 g5 hf hx G5 OA GA J hL HN hs SA hbg hlt
      generalize (ls ++ [-99, -99, -99]).length = N at *
      generalize nth (ls ++ [-99, -99, -99]) 0 = z at *
      have hp' : (0 : Int) < N := by omega
      go_wp2_with fail
      refine bodyPost_ret (v := .tuple #[]) ?_ rfl ⟨rfl, GF.out⟩
      simp [results, Try.results12]
theorem wpList_copy_list {ops : Array Oper} {rest : List Oper} {o : Oper} {a : Act} {w : World} {Q : Exit → Act → World → Prop} (hgd : o.guard = none) (d s : Operand)
    (hop : o.op = Op.call { callee := Callee.builtin Builtin.copy, args := #[d, s], argTypes := #[24, 24] }) (b dLen dCap : Nat) (rs : List Int) (hb : Blk w b 3 rs) (hd : a.eval d = .slice (some ⟨b, 0, none⟩) dLen dCap)
    (v : Value) (l : List Int) (hs : a.eval s = v) (h : Ints w v l) (hle : l.length ≤ dLen) (hfit : l.length ≤ rs.length)
    (hK : ∀ w', Blk w' b 3 (l ++ rs.drop l.length) → w.grownBy w' (some b) → wpList Try.prog ops Q rest (a.put o.dst (goInt l.length)) w') : wpList Try.prog ops Q (o :: rest) a w := by
  have hsz : (Try.prog.info? 3).map (·.size) = some 1 := by kernel_rfl
  obtain ⟨ad, c, rfl, hc, hcell⟩ := h
  by_cases h0 : l.length = 0
  · obtain rfl : l = [] := List.eq_nil_of_length_eq_zero h0
    refine wpList_copy_nothing hgd d s _ _ hop 3 Try.underlying24 hsz _ _ _ _ _ _ hd hs (by simp) ?_
    exact hK w (by simpa using hb) (grown_refl _ _)
  · obtain ⟨ab, rfl, hv⟩ := hcell (by omega)
    refine wpList_copy_own hgd d s _ _ hop 3 Try.underlying24 hsz b 0 dLen dCap ab l.length c hd hs (arrI rs) 3 hb (l.map (Value.int .i64)) (by rw [List.length_map]; exact (Nat.min_eq_left hle).symm) (fun j v hv' => ?_) (by simp [arrI]; omega) (fun v hv' => ?_) ?_
    · have hj : j < l.length := by
        by_cases hj : j < l.length
        · exact hj
        · rw [List.getElem?_eq_none (by simp; omega)] at hv'; cases hv'
      rw [hv j hj]
      simpa [nth, List.getD, hj] using hv'
    · obtain ⟨x, _, rfl⟩ := List.mem_map.1 hv'
      rfl
    · have e : ((arrI rs).toList.take 0 ++ (l.map (Value.int .i64) ++ (arrI rs).toList.drop (0 + (l.map (Value.int .i64)).length))).toArray = arrI (l ++ rs.drop l.length) := by simp [arrI]
      rw [e, List.length_map]
      exact hK _ (setRow_heap _ _ _ _ _ _ hb) (grown_setRow' _ _ _)
theorem room_set (l : List Int) (x y : Int) : ((l ++ [0, 0]).set l.length x).set (l.length + 1) y = l ++ [x, y] := by
  rw [List.set_append_right _ _ (Nat.le_refl _), List.set_append_right _ _ (by omega)]
  simp
/-- A list with spare room of two. -/
def Room (w : World) (b : Nat) (l : List Int) : Prop := Blk w b 3 (l ++ [-4711, -4712])
theorem Room.ints {w : World} {b : Nat} {l : List Int} (h : Room w b l) : Ints w (.slice (some ⟨b, 0, none⟩) l.length (l.length + 2)) l := by
  refine ⟨_, _, rfl, by omega, fun _ => ⟨_, rfl, fun i hi => ?_⟩⟩
  rw [Addr.add_mid, Nat.zero_add, Blk.cell h i (by simp; omega), nth_appL _ _ _ hi]
theorem roomy_any (v : Value) (l : List Int) (w : World) (h : Ints w v l) (hl : l.length ≤ 1000) :
    Calls Try.prog 7 #[v] w fun e w' => ∃ b, e = .returned (.slice (some ⟨b, 0, none⟩) l.length (l.length + 2)) ∧ w.heap.size ≤ b ∧ Room w' b l ∧ w.grownBy w' none := by
  have hmk := make_zeros (l.length + 2) (by omega)
  have ga := grown_alloc w (.cells (arrI (zeros (l.length + 2))) 3) none
  have B0 := hide (Blk.new w 3 (zeros (l.length + 2)))
  have HI := hide (Ints_keep h ga)
  have G0 := hide ga
  rw [show ((l.length + 2 : Nat) : Int) = (l.length : Int) + 2 by omega] at hmk
  obtain ⟨ad, c, rfl, hc, _⟩ := h
  clear ga
  have z1 : (zeros (l.length + 2)).length = l.length + 2 := zeros_len _
  go_enter Try.func7, Try.ntmps7
  go_wp2_with (first | refine wpList_copy_list rfl _ _ rfl w.heap.size (l.length + 2) (l.length + 2) _ B0.out rfl _ l rfl HI.out (by omega) (by rw [z1]; omega) ?_)
  intro w1 b1 g1
  rw [show (zeros (l.length + 2)).drop l.length = [0, 0] by simp [zeros]] at b1
  have B1 := hide b1
  have G1 := hide (grown_own G0.out g1 (Nat.le_refl _))
  clear b1 g1 B0 G0 HI hmk z1
  have hl2 : (l ++ [0, 0]).length = l.length + 2 := by simp
  have c0 := B1.out.cell l.length (by omega)
  have c1 := B1.out.cell (l.length + 1) (by omega)
  have f0 := B1.out.free l.length
  have f1 := B1.out.free (l.length + 1)
  have BF := hide ((B1.out.set l.length (-4711)).set (l.length + 1) (-4712))
  rw [room_set] at BF
  have GF := hide (grown_own (grown_own G1.out (grown_setCell w1 ⟨w.heap.size, l.length, none⟩ (.int .i64 (-4711))) (Nat.le_refl _)) (grown_setCell (w1.setCell ⟨w.heap.size, l.length, none⟩ (.int .i64 (-4711))) ⟨w.heap.size, l.length + 1, none⟩ (.int .i64 (-4712))) (Nat.le_refl _))
  clear B1 G1 hl2
  generalize nth (l ++ [0, 0]) l.length = x0 at *
  generalize nth (l ++ [0, 0]) (l.length + 1) = x1 at *
  have i1 : (l.length : Int) < (l.length : Int) + 2 := by omega
  have i2 : (l.length : Int) + 1 < (l.length : Int) + 2 := by omega
  go_wp2_with fail
  go_ret
  exact ⟨_, rfl, Nat.le_refl _, BF.out, GF.out⟩
theorem stayed_any (b : Nat) (l : List Int) (w : World) (hr : Room w b l) (u : Value) (hu : Ints w u l) (hl : l.length ≤ 1000) :
    Calls Try.prog 16 #[.slice (some ⟨b, 0, none⟩) l.length (l.length + 2), u] w fun e w' => e = .returned (.bool true) ∧ w.grownBy w' none := by
  have SA := hide (keepSame_any _ u l l w (Room.ints hr) hu (by omega) (by omega))
  rw [show decide (l = l) = true by simp] at SA
  obtain ⟨ad, c, rfl, hc, _⟩ := hu
  have HR := hide hr
  clear hr
  have i1 : (l.length : Int) < (l.length : Int) + 2 := by omega
  have i2 : (l.length : Int) + 1 < (l.length : Int) + 2 := by omega
  go_enter Try.func16, Try.ntmps16
  go_wp2_with fail
  refine SA.out.mono ?_
  rintro e w1 ⟨rfl, k, rfl⟩
  have H1 := hide (show Room (w.drewN k) b l from Blk.keep HR.out (grown_drewN' w k none))
  have G1 := hide (grown_drewN' w k none)
  clear SA HR
  generalize w.drewN k = w1 at *
  have c0 := Blk.cell H1.out l.length (by simp)
  have c1 := Blk.cell H1.out (l.length + 1) (by simp)
  rw [nth_appR _ _ _ (by omega), Nat.sub_self] at c0
  rw [nth_appR _ _ _ (by omega), Nat.add_sub_cancel_left] at c1
  rw [show nth [-4711, -4712] 0 = -4711 from rfl] at c0
  rw [show nth [-4711, -4712] 1 = -4712 from rfl] at c1
  clear H1
  go_wp2_with fail
  go_ret
  exact ⟨rfl, G1.out⟩
end Go.Proofs.Ytjjpbleknbmmgab
