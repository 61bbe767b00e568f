/- Texts put together: PlyMath, PikMath, ChoMath, RefWt, CorrMath, BigMem, BigA, BigB, BigC, TabF, QuantA, QuantB, RefQuant, RefOne, LQuantR, QuantC, QuaMath, LpcB, LpcC, LpcD, PitA, PitG, AppL, PartL, GaiF, OrderF, PulA, PulI, Dual, Pow, GaiA, BytL, PkW, PlyS. -/
import Derived.Test.YtjepkgdejkifcaaGreatDoorBun1
import Derived.Test.YtjepkgdejkifcaaGreatDoorProg
import Derived.WalkKit
import Derived.WalkSpells
import Derived.WalkLawsBesides
import Derived.Laws.BitsAllLaws
import Derived.Deep.QuietTactic
import Derived.BigQuiet
import Derived.Deep.RegionHeld3
import Derived.Laws.CopyOwn
import Derived.Deep.Cut
import Derived.RowKit3
/- PlyMath -/
namespace Go.Proofs.YtjepkgdejkifcaaGreatDoor
open Go.RowKit
set_option linter.unusedVariables false
set_option linter.unusedSimpArgs false
def prdP (was now : List Int) (half : Nat) : List Int := if half = 0 then dirL (mixL was now 2) else dirL now
theorem mix_steady (a b : List Int) (ha : a.length = 8) (hb : b.length = 8) (sa : steadyB a = true) (sb : steadyB b = true) : steadyB (mixL a b 2) = true := by
  have ok : okM a b 2 = true := by unfold okM; rw [sa, sb]; decide
  have e : mixL a b 2 = tab 8 (mixN a b 2) := if_pos ok
  rw [steadyB_iff, mixL_len]
  intro i hi
  rw [e, tab_nth _ _ _ hi]
  have x := (steadyB_iff a).1 sa i (by omega)
  have y := (steadyB_iff b).1 sb i (by omega)
  have := tdiv4_le (nth a i * (4 - 2) + nth b i * 2) (-32767) 32767 (by omega) (by omega)
  unfold mixN
  omega
theorem mix_all (a b : List Int) (hb : b.length = 8) (sa : steadyB a = true) (sb : steadyB b = true) : mixL a b 4 = b := by
  have ok : okM a b 4 = true := by unfold okM; rw [sa, sb]; decide
  have e : mixL a b 4 = tab 8 (mixN a b 4) := if_pos ok
  rw [e]
  refine (tab_ext hb (fun i hi => ?_)).symm
  unfold mixN
  have := tdiv4_le (nth a i * (4 - 4) + nth b i * 4) (nth b i) (nth b i) (by omega) (by omega)
  omega
theorem prdP_wide (was now : List Int) (half : Nat) (hw : was.length = 8) (hn : now.length = 8) (sw : steadyB was = true) (sn : steadyB now = true) : WideP (prdP was now half) := by
  unfold prdP
  split
  · exact dir_wide _ (mixL_len _ _ _) (mix_steady _ _ hw hn sw sn)
  · exact dir_wide _ hn sn
theorem prdP_mix (was now : List Int) (half : Nat) (hh : half < 2) (hn : now.length = 8) (sw : steadyB was = true) (sn : steadyB now = true) : dirL (mixL was now (2 + 2 * (half : Int))) = prdP was now half := by
  obtain rfl | rfl : half = 0 ∨ half = 1 := by omega
  · rfl
  · unfold prdP
    rw [if_neg (by omega)]
    rw [show (2 : Int) + 2 * ((1 : Nat) : Int) = 4 from rfl, mix_all was now hn sw sn]
def vlL (p : List Int) : List Int := tab 8 (fun i => lvl (wid i) (nth p (1 + i)))
theorem vlL_len (p : List Int) : (vlL p).length = 8 := tab_len _ _
theorem mo_many (i : Nat) (h : i < 8) : moN (1 + i) = (many (wid i) : Int) - 1 := by
  have : ∀ i : Fin 8, moN (1 + i.val) = (many (wid i.val) : Int) - 1 := by decide
  exact this ⟨i, h⟩
theorem vlL_bd (p : List Int) (hp : gudP p = true) (i : Nat) (h : i < 8) : -31000 ≤ nth (vlL p) i ∧ nth (vlL p) i ≤ 31000 := by
  unfold vlL
  rw [tab_nth _ _ _ h]
  have := (gudP_iff p).1 hp (1 + i) (by omega)
  rw [mo_many i h] at this
  exact lvl_bd _ _ (wid_in i) this.1 (by omega)
theorem vlL_steady (p : List Int) (hp : gudP p = true) : steadyB (vlL p) = true := by
  rw [steadyB_iff, vlL_len]
  intro i hi
  have := vlL_bd p hp i hi
  omega
def subL (p : List Int) (k : Nat) : List Int := prt p (9 + 8 * k) 8
structure GudS (u : List Int) : Prop where
  len : u.length = 8
  lag : 0 ≤ nth u 0 ∧ nth u 0 ≤ 59
  pit : 0 ≤ nth u 1 ∧ nth u 1 ≤ 7
  idx : ∀ j, j < 4 → 0 ≤ nth u (2 + j) ∧ nth u (2 + j) ≤ 9
  sgn : 0 ≤ nth u 6 ∧ nth u 6 ≤ 15
  lev : 0 ≤ nth u 7 ∧ nth u 7 ≤ 31
theorem subL_good (p : List Int) (hp : gudP p = true) (k : Nat) (hk : k < 2) : GudS (subL p k) := by
  have h := (gudP_iff p).1 hp
  have g : ∀ i, i < 8 → 0 ≤ nth (subL p k) i ∧ nth (subL p k) i ≤ moN (9 + 8 * k + i) := fun i hi => by
    unfold subL
    rw [prt_nth _ _ _ _ hi]
    exact h (9 + 8 * k + i) (by omega)
  obtain rfl | rfl : k = 0 ∨ k = 1 := by omega
  · refine ⟨prt_len _ _ _, g 0 (by omega), g 1 (by omega), fun j hj => ?_, g 6 (by omega), g 7 (by omega)⟩
    obtain rfl | rfl | rfl | rfl : j = 0 ∨ j = 1 ∨ j = 2 ∨ j = 3 := by omega
    · exact g 2 (by omega)
    · exact g 3 (by omega)
    · exact g 4 (by omega)
    · exact g 5 (by omega)
  · refine ⟨prt_len _ _ _, g 0 (by omega), g 1 (by omega), fun j hj => ?_, g 6 (by omega), g 7 (by omega)⟩
    obtain rfl | rfl | rfl | rfl : j = 0 ∨ j = 1 ∨ j = 2 ∨ j = 3 := by omega
    · exact g 2 (by omega)
    · exact g 3 (by omega)
    · exact g 4 (by omega)
    · exact g 5 (by omega)
def spZ (u : List Int) : Int := glV (nth u 7)
def spG (u : List Int) : Int := gaV (nth u 1)
def spB (u : List Int) : List Int := blL (prt u 2 4) (nth u 6) (spZ u)
def spX (l u : List Int) : List Int := mxL (prt l 16 80) (20 + nth u 0) (spG u) (spB u)
def spM (l u : List Int) : List Int := (((ovr l 16 (kpL (prt l 16 80) (spX l u))).set 98 (20 + nth u 0)).set 97 (spG u)).set 96 (spZ u)
theorem spM_len (l u : List Int) : (spM l u).length = l.length := by unfold spM; rw [List.length_set, List.length_set, List.length_set, ovr_len]
theorem spZ_bd {u : List Int} (h : GudS u) : 0 ≤ spZ u ∧ spZ u ≤ 25267 := by
  have e : spZ u = gszN (nth u 7).toNat := if_pos h.lev
  rw [e]; exact gszN_bd _
theorem spG_bd {u : List Int} (h : GudS u) : 0 ≤ spG u ∧ spG u ≤ 18022 := by
  have e : spG u = gainN (nth u 1).toNat := if_pos h.pit
  rw [e]; exact gainN_bd _
theorem sp_idx {u : List Int} (h : GudS u) : goodX (prt u 2 4) = true := by
  unfold goodX
  rw [all_iff, prt_len]
  intro i hi
  rw [prt_nth _ _ _ _ hi]
  have := h.idx i hi
  simp [this.1, this.2]
theorem spB_yes {u : List Int} (h : GudS u) : blE (prt u 2 4) (nth u 6) (spZ u) = 0 ∧ spB u = tab 40 (blN (prt u 2 4) (nth u 6) (spZ u)) :=
  blL_yes ⟨h.sgn, ⟨(spZ_bd h).1, by have := (spZ_bd h).2; omega⟩, sp_idx h⟩
theorem spB_len {u : List Int} (h : GudS u) : (spB u).length = 40 := by rw [(spB_yes h).2, tab_len]
theorem sp_mix {u : List Int} (h : GudS u) : mxO (20 + nth u 0) (spG u) (spB u) :=
  ⟨spB_len h, by have := h.lag; omega, (spG_bd h).1, by have := (spG_bd h).2; omega⟩
theorem spX_yes {u : List Int} (h : GudS u) (l : List Int) : spX l u = mxA (pasL (prt l 16 80) (20 + nth u 0)) (spG u) (spB u) ∧ mxE (20 + nth u 0) (spG u) (spB u) = 0 := mxL_yes (sp_mix h)
theorem spX_len {u : List Int} (h : GudS u) (l : List Int) : (spX l u).length = 40 := by rw [(spX_yes h l).1, mxA_len]
theorem spX_right {u : List Int} (h : GudS u) (l : List Int) : rightB (spX l u) = true := by rw [(spX_yes h l).1]; exact mxA_right _ _ _
theorem spM_good {l u : List Int} (hl : l.length = 101) (hg : goodM l = true) (h : GudS u) : goodM (spM l u) = true := by
  have g := (goodM_iff l).1 hg
  have kx : kpL (prt l 16 80) (spX l u) = kpA (prt l 16 80) (spX l u) := (kpL_yes (spX_len h l)).1
  rw [goodM_iff]
  intro i hi
  unfold spM
  rw [kx]
  have z := spZ_bd h
  have p := spG_bd h
  have a := h.lag
  rw [setN _ _ _ (by rw [List.length_set, List.length_set, ovr_len]; omega), setN _ _ _ (by rw [List.length_set, ovr_len]; omega), setN _ _ _ (by rw [ovr_len]; omega)]
  by_cases e1 : i = 96
  · rw [if_pos e1, e1]; exact ⟨z.1, by show spZ u ≤ 32767; omega⟩
  · rw [if_neg e1]
    by_cases e2 : i = 97
    · rw [if_pos e2, e2]; exact p
    · rw [if_neg e2]
      by_cases e3 : i = 98
      · rw [if_pos e3, e3]; exact ⟨by show (20 : Int) ≤ _; omega, by show _ ≤ (79 : Int); omega⟩
      · rw [if_neg e3, ovr_nth _ _ _ _ (by omega), kpA_len]
        by_cases e4 : 16 ≤ i ∧ i < 16 + 80
        · rw [if_pos e4, (smp_at i (by omega) (by omega)).1, (smp_at i (by omega) (by omega)).2]
          refine kep_right _ _ (fun j hj => ?_) _ (by omega)
          rw [prt_nth _ _ _ _ hj]
          have := g (16 + j) (by omega)
          rw [(smp_at (16 + j) (by omega) (by omega)).1, (smp_at (16 + j) (by omega) (by omega)).2] at this
          exact this
        · rw [if_neg e4]; exact g i hi
def plP (sil : Bool) (l u : List Int) : List Int := if sil = true then siM l else spM l u
def plX (sil : Bool) (l u : List Int) : List Int := if sil = true then siL l else spX l u
def plM (sil : Bool) (now l p : List Int) : Nat → List Int
  | 0 => l
  | n + 1 => souM (prdP (prt (plP sil (plM sil now l p n) (subL p n)) 0 8) now n) (plP sil (plM sil now l p n) (subL p n)) (plX sil (plM sil now l p n) (subL p n))
def plO (sil : Bool) (now l p : List Int) : Nat → List Int
  | 0 => []
  | n + 1 => plO sil now l p n ++ souL (prdP (prt (plP sil (plM sil now l p n) (subL p n)) 0 8) now n) (plP sil (plM sil now l p n) (subL p n)) (plX sil (plM sil now l p n) (subL p n))
theorem plP_len (sil : Bool) {l : List Int} (hl : l.length = 101) (u : List Int) : (plP sil l u).length = 101 := by
  unfold plP
  split
  · unfold siM; split
    · rw [memT_len, hl]
    · exact zeros_len _
  · rw [spM_len, hl]
theorem plP_good (sil : Bool) {l u : List Int} (hl : l.length = 101) (hg : goodM l = true) (h : GudS u) : goodM (plP sil l u) = true := by
  unfold plP
  split
  · exact siM_good l hl hg
  · exact spM_good hl hg h
theorem plX_right (sil : Bool) {l u : List Int} (hg : goodM l = true) (h : GudS u) : (plX sil l u).length = 40 ∧ rightB (plX sil l u) = true := by
  unfold plX
  split
  · exact ⟨by rw [(si_yes (s := true) hg).2.2.1, siX_len], siL_right _⟩
  · exact ⟨spX_len h l, spX_right h l⟩
theorem plM_len (sil : Bool) (now p : List Int) {l : List Int} (hl : l.length = 101) : ∀ n, (plM sil now l p n).length = 101
  | 0 => hl
  | n + 1 => by
    show (souM _ (plP sil (plM sil now l p n) (subL p n)) _).length = 101
    rw [souM_len, plP_len sil (plM_len sil now p hl n)]
theorem plM_good (sil : Bool) {now p l : List Int} (hl : l.length = 101) (hg : goodM l = true) (hn : now.length = 8) (sn : steadyB now = true) (hp : gudP p = true) : ∀ n, n ≤ 2 → goodM (plM sil now l p n) = true
  | 0, _ => hg
  | n + 1, h => by
    have g := plM_good sil hl hg hn sn hp n (by omega)
    have len := plM_len sil now p hl n
    have u := subL_good p hp n (by omega)
    have gp := plP_good sil len g u
    exact souM_good (plP_len sil len _) (prdP_wide _ _ _ (prt_len _ _ _) hn (reflM_steady gp) sn) gp (plX_right sil g u).2
theorem plO_right (sil : Bool) {now p l : List Int} (hl : l.length = 101) (hg : goodM l = true) (hn : now.length = 8) (sn : steadyB now = true) (hp : gudP p = true) : ∀ n, n ≤ 2 → (plO sil now l p n).length = 40 * n ∧ rightB (plO sil now l p n) = true
  | 0, _ => ⟨rfl, rfl⟩
  | n + 1, h => by
    obtain ⟨a, b⟩ := plO_right sil hl hg hn sn hp n (by omega)
    have g := plM_good sil hl hg hn sn hp n (by omega)
    have len := plM_len sil now p hl n
    have u := subL_good p hp n (by omega)
    have gp := plP_good sil len g u
    have x := plX_right sil g u
    have wd := prdP_wide (prt (plP sil (plM sil now l p n) (subL p n)) 0 8) now n (prt_len _ _ _) hn (reflM_steady gp) sn
    constructor
    · show (plO sil now l p n ++ souL _ _ _).length = _
      rw [List.length_append, a, souL_len wd gp x.2, x.1]; omega
    · show rightB (plO sil now l p n ++ souL _ _ _) = true
      have c := souL_right wd gp x.2
      unfold rightB at *
      rw [List.all_append, b, c]; rfl
def plF (l p : List Int) : List Int := if nth p 0 = 1 then freL else l
def plyS (p : List Int) : Bool := decide (nth p 0 = 2)
def plyM (l p : List Int) : List Int := (ovr (plM (plyS p) (vlL p) (plF l p) p 2) 0 (vlL p)).set 99 0
def plyL (l p : List Int) : List Int := plO (plyS p) (vlL p) (plF l p) p 2
theorem plF_good {l p : List Int} (hl : l.length = 101) (hg : goodM l = true) : (plF l p).length = 101 ∧ goodM (plF l p) = true := by
  unfold plF
  split
  · exact ⟨freL_len, freL_good⟩
  · exact ⟨hl, hg⟩
theorem plyM_len {l : List Int} (p : List Int) (hl : l.length = 101) : (plyM l p).length = 101 := by
  unfold plyM
  rw [List.length_set, ovr_len, plM_len]
  unfold plF
  split
  · exact freL_len
  · exact hl
theorem plyL_right {l p : List Int} (hl : l.length = 101) (hg : goodM l = true) (hp : gudP p = true) : (plyL l p).length = 80 ∧ rightB (plyL l p) = true := by
  obtain ⟨fl, fg⟩ := plF_good (p := p) hl hg
  exact plO_right (plyS p) fl fg (vlL_len p) (vlL_steady p hp) hp 2 (by omega)
def decM (l b : List Int) : List Int := if goodM l = true ∧ unE b = 0 then plyM l (unpL b) else zeros 101
def decS (l b : List Int) : Bool := if goodM l = true ∧ unE b = 0 then plyS (unpL b) else false
def decL (l b : List Int) : List Int := if goodM l = true ∧ unE b = 0 then plyL l (unpL b) else []
def decE (l b : List Int) : Int := if goodM l = true then unE b else 2
theorem unpL_good (b : List Int) (h : unE b = 0) : gudP (unpL b) = true := by
  have e : unpL b = unF (xB b 14) := if_pos h
  rw [e]; exact (unE_zero b h).2.2.2.1
theorem dec_yes {l b : List Int} (k : goodM l = true) (h : unE b = 0) : decM l b = plyM l (unpL b) ∧ decS l b = plyS (unpL b) ∧ decL l b = plyL l (unpL b) ∧ decE l b = 0 := ⟨if_pos ⟨k, h⟩, if_pos ⟨k, h⟩, if_pos ⟨k, h⟩, by unfold decE; rw [if_pos k, h]⟩
theorem dec_no {l b : List Int} (k : goodM l = true) (h : unE b ≠ 0) : decM l b = zeros 101 ∧ decS l b = false ∧ decL l b = [] ∧ decE l b = unE b := ⟨if_neg (fun q => h q.2), if_neg (fun q => h q.2), if_neg (fun q => h q.2), if_pos k⟩
theorem dec_bad {l b : List Int} (k : goodM l = false) : decM l b = zeros 101 ∧ decS l b = false ∧ decL l b = [] ∧ decE l b = 2 := by
  have n : ¬ goodM l = true := by rw [k]; decide
  exact ⟨if_neg (fun q => n q.1), if_neg (fun q => n q.1), if_neg (fun q => n q.1), if_neg n⟩
theorem decM_len {l : List Int} (b : List Int) (hl : l.length = 101) : (decM l b).length = 101 := by
  unfold decM
  split
  · exact plyM_len _ hl
  · exact zeros_len _
theorem decL_le {l : List Int} (b : List Int) (hl : l.length = 101) : (decL l b).length ≤ 80 := by
  unfold decL
  split
  · rename_i h; rw [(plyL_right hl h.1 (unpL_good b h.2)).1]; exact Nat.le_refl _
  · exact Nat.zero_le _
end Go.Proofs.YtjepkgdejkifcaaGreatDoor

/- PikMath -/
namespace Go.Proofs.YtjepkgdejkifcaaGreatDoor

end Go.Proofs.YtjepkgdejkifcaaGreatDoor

/- ChoMath -/
namespace Go.Proofs.YtjepkgdejkifcaaGreatDoor

end Go.Proofs.YtjepkgdejkifcaaGreatDoor

/- RefWt -/
namespace Go.Proofs.YtjepkgdejkifcaaGreatDoor

end Go.Proofs.YtjepkgdejkifcaaGreatDoor

/- CorrMath -/
namespace Go.Proofs.YtjepkgdejkifcaaGreatDoor

end Go.Proofs.YtjepkgdejkifcaaGreatDoor

/- BigMem -/
namespace Go.Proofs.YtjepkgdejkifcaaGreatDoor
open Go.RowKit
set_option linter.unusedVariables false
def arr (l : List Int) : Array Value := (l.map (Value.int .u32)).toArray
theorem arr_get (l : List Int) (i : Nat) (h : i < l.length) : (arr l)[i]? = some (.int .u32 (nth l i)) := by
  simp [arr, nth, List.getD, h]
theorem arr_set (l : List Int) (k : Nat) (v : Int) : (arr l).setIfInBounds k (.int .u32 v) = arr (l.set k v) := by
  simp [arr, List.map_set]
def Sl (w : World) (v : Value) (l : List Int) : Prop :=
  (v = .slice none 0 0 ∧ l = []) ∨ ∃ (b c : Nat) (cs : Array Value), v = .slice (some ⟨b, 0, none⟩) l.length c ∧ l.length ≤ c ∧ w.heap[b]? = some (.cells cs 169 (0, 0)) ∧ ∀ i, i < l.length → cs[i]? = some (.int .u32 (nth l i))
def Struct (w : World) (b : Nat) : Prop := ∃ x y, w.heap[b]? = some (.cells #[x, y] 74 (0, 0))
def IsI (w : World) (b : Nat) (z : Int) : Prop :=
  ∃ (v : Value) (l : List Int), w.heap[b]? = some (.cells #[.bool (decide (z < 0)), v] 74 (0, 0)) ∧ Sl w v l ∧ WF l ∧ Top l ∧ val l = z.natAbs ∧ l.length ≤ 8
theorem Sl_len {w : World} {v : Value} {l : List Int} (h : Sl w v l) : ∃ a c, v = .slice a l.length c := by
  rcases h with ⟨rfl, rfl⟩ | ⟨b, c, cs, rfl, _⟩
  · exact ⟨_, _, rfl⟩
  · exact ⟨_, _, rfl⟩
theorem Sl_nil (w : World) : Sl w (.slice none 0 0) [] := Or.inl ⟨rfl, rfl⟩
theorem Sl_keep {w w' : World} {v : Value} {l : List Int} {r : Option Nat} (h : Sl w v l) (hg : w.grownBy w' r) (hr : ∀ k, r = some k → Struct w k) : Sl w' v l := by
  rcases h with h | ⟨b, c, cs, h1, h2, h3, h4⟩
  · exact Or.inl h
  · refine Or.inr ⟨b, c, cs, h1, h2, ?_, h4⟩
    rw [hg.block b (lt_of_some h3) ?_]
    · exact h3
    · intro e
      obtain ⟨x, y, hc⟩ := hr b e.symm
      rw [h3] at hc
      simp at hc
theorem Sl_new {w w' : World} {v : Value} {l : List Int} (h : Sl w v l) (hg : w.grownBy w' none) : Sl w' v l := Sl_keep h hg (fun k e => by cases e)
theorem Struct_keep {w w' : World} {b : Nat} {r : Option Nat} (h : Struct w b) (hg : w.grownBy w' r) (hb : r ≠ some b) : Struct w' b := by
  obtain ⟨x, y, hc⟩ := h
  exact ⟨x, y, by rw [hg.block b (lt_of_some hc) (fun e => hb e.symm)]; exact hc⟩
theorem IsI_struct {w : World} {b : Nat} {z : Int} (h : IsI w b z) : Struct w b := by
  obtain ⟨v, l, h1, _⟩ := h; exact ⟨_, _, h1⟩
theorem IsI_keep {w w' : World} {b : Nat} {z : Int} {r : Option Nat} (h : IsI w b z) (hg : w.grownBy w' r) (hb : r ≠ some b) (hr : ∀ k, r = some k → Struct w k) : IsI w' b z := by
  obtain ⟨v, l, h1, h2, h3⟩ := h
  exact ⟨v, l, by rw [hg.block b (lt_of_some h1) (fun e => hb e.symm)]; exact h1, Sl_keep h2 hg hr, h3⟩
theorem IsI_new {w w' : World} {b : Nat} {z : Int} (h : IsI w b z) (hg : w.grownBy w' none) : IsI w' b z := IsI_keep h hg (by simp) (fun k e => by cases e)
theorem Sl_own (w : World) (rs : List Int) (n : Nat) (h : rs.length = n) : Sl (w.alloc (.cells (arr rs) 169)) (.slice (some ⟨w.heap.size, 0, none⟩) n n) rs :=
  Or.inr ⟨w.heap.size, n, arr rs, by rw [h], by omega, heap_new _ _, fun i hi => arr_get rs i hi⟩
theorem Sl_view {w : World} {v : Value} {l : List Int} (h : Sl w v l) : ∃ ad c, v = .slice ad l.length c ∧ (0 < l.length → ∃ b, ad = some ⟨b, 0, none⟩ ∧ b < w.heap.size ∧ ∀ i, i < l.length → w.cell? ⟨b, i, none⟩ = some (.int .u32 (nth l i))) := by
  rcases h with ⟨rfl, rfl⟩ | ⟨b, c, cs, rfl, hc, hb, hcs⟩
  · exact ⟨_, _, rfl, fun h => by simp at h⟩
  · exact ⟨_, _, rfl, fun _ => ⟨b, rfl, lt_of_some hb, fun i hi => by rw [cell_of_heap hb]; exact hcs i hi⟩⟩
end Go.Proofs.YtjepkgdejkifcaaGreatDoor

/- BigA -/
namespace Go.Proofs.YtjepkgdejkifcaaGreatDoor
open Go.RowKit
set_option linter.unusedVariables false
set_option maxHeartbeats 1000000
def Gives (w : World) (z : Int) (n : Nat) (e : Ending) (w' : World) : Prop :=
  ∃ v' l', e = .returned v' ∧ Sl w' v' l' ∧ WF l' ∧ Top l' ∧ val l' = z ∧ l'.length ≤ n ∧ w.grownBy w' none
def Trims (w : World) (z : Int) (n : Nat) (e : Ending) (w' : World) : Prop :=
  ∃ v' l', e = .returned v' ∧ Sl w v' l' ∧ WF l' ∧ Top l' ∧ val l' = z ∧ l'.length ≤ n ∧ w' = w
theorem Trims_mk {w : World} {l : List Int} {b c : Nat} {cs : Array Value} (hw : WF l) (hb : w.heap[b]? = some (.cells cs 169 (0, 0))) (hcs : ∀ i, i < l.length → cs[i]? = some (.int .u32 (nth l i))) (hc : l.length ≤ c)
    (k : Nat) (hk : k ≤ l.length) (hz : ∀ i, k ≤ i → i < l.length → nth l i = 0) (ht : k = 0 ∨ nth l (k - 1) ≠ 0) : Trims w (val l) l.length (.returned (.slice (some ⟨b, 0, none⟩) k c)) w := by
  obtain ⟨t1, t2, t3, t4⟩ := trim_math l hw k hk hz ht
  refine ⟨_, l.take k, rfl, Or.inr ⟨b, c, cs, by rw [t4], by omega, hb, fun i hi => ?_⟩, t1, t2, t3, by omega, rfl⟩
  rw [t4] at hi
  rw [take_getD, if_pos hi]
  exact hcs i (by omega)
theorem trim_any (v : Value) (l : List Int) (w : World) (hs : Sl w v l) (hw : WF l) (hl : l.length ≤ 100) :
    Calls Tryz.prog 151 #[v] w (Trims w (val l) l.length) := by
  rcases hs with ⟨rfl, rfl⟩ | ⟨b, c, cs, rfl, hc, hb, hcs⟩
  · go_enter Tryz.func151, Tryz.ntmps151
    go_wp2_with fail
    refine wp_loop_rounds 1 ?_
    rw [rounds_succ]
    go_wp2_with fail
    go_ret
    exact ⟨_, [], rfl, Sl_nil _, hw, Or.inl rfl, rfl, Nat.le_refl _, rfl⟩
  · have hcell : ∀ i, i < l.length → w.cell? ⟨b, i, none⟩ = some (.int .u32 (nth l i)) := fun i hi => by rw [cell_of_heap hb]; exact hcs i hi
    have fin := fun k hk hz ht => Trims_mk (w := w) (l := l) hw hb hcs hc k hk hz ht
    have FIN : Hid _ := fin
    clear fin hb hcs
    generalize hT : Trims w (val l) l.length = T at *
    have HT : Hid (Trims w (val l) l.length = T) := hT
    clear hT
    go_enter Tryz.func151, Tryz.ntmps151
    go_wp2_with fail
    go_loop [3] (fun n => ∃ k : Nat, n = .int .i64 k ∧ k ≤ l.length ∧ Hid (∀ i, k ≤ i → i < l.length → nth l i = 0)) (fun n => (intOf n).toNat)
    case atStart => exact ⟨l.length, rfl, Nat.le_refl _, fun i h1 h2 => by omega⟩
    case round =>
      obtain ⟨k, rfl, hk, hz⟩ := hrel
      cases k with
      | zero =>
        have F := FIN.out 0 (by omega) hz.out (Or.inl rfl)
        have HF : Hid _ := F
        clear F FIN hcell
        go_wp2_with fail
        exact HF.out
      | succ j =>
        have hj := hcell j (by omega)
        clear hcell
        by_cases h0 : nth l j = 0
        · have hb0 : (nth l j == 0) = true := by simp [h0]
          have H0 : Hid (nth l j = 0) := h0
          clear h0 FIN
          go_wp2_with fail
          go_round
          case rel => exact ⟨j, by go_num, by omega, fun i h1 h2 => by by_cases e : i = j; exact (by rw [e]; exact H0.out); exact hz.out i (by omega) h2⟩
          case measure => simp [intOf]
        · have hb0 : (nth l j == 0) = false := by simp [h0]
          have F := FIN.out (j + 1) hk hz.out (Or.inr (by rw [Nat.add_sub_cancel]; exact h0))
          have HF : Hid _ := F
          clear F FIN h0
          go_wp2_with fail
          exact HF.out
theorem words_any (u : Int) (w : World) (h0 : 0 ≤ u) (h1 : u < 18446744073709551616) :
    Calls Tryz.prog 146 #[.int .u64 u] w (Gives w u 2) := by
  have hw : WF [u % 4294967296, u / 4294967296] := WF2 _ _ (by omega) (by omega) (by omega) (by omega)
  have hv : val [u % 4294967296, u / 4294967296] = u := by rw [val2]; omega
  have hs : Sl (w.alloc (.cells #[.int .u32 (u % 4294967296), .int .u32 (u / 4294967296)] 169)) (.slice (some ⟨w.heap.size, 0, none⟩) 2 2) [u % 4294967296, u / 4294967296] :=
    Or.inr ⟨w.heap.size, 2, _, rfl, Nat.le_refl _, heap_new _ _, fun i hi => by
      match i, hi with
      | 0, _ => rfl
      | 1, _ => rfl⟩
  have HS : Hid (Sl (w.alloc (.cells #[.int .u32 (u % 4294967296), .int .u32 (u / 4294967296)] 169)) (.slice (some ⟨w.heap.size, 0, none⟩) 2 2) [u % 4294967296, u / 4294967296]) := hs
  have HV : Hid (val [u % 4294967296, u / 4294967296] = u) := hv
  clear hs hv
  go_enter Tryz.func146, Tryz.ntmps146
  go_wp2_with fail
  refine (trim_any _ _ _ HS.out hw (by simp)).mono ?_
  rintro e w1 ⟨v', l', rfl, s1, s2, s3, s4, s5, rfl⟩
  have HP : Hid (Gives w u 2 (.returned v') _) := ⟨v', l', rfl, s1, s2, s3, s4.trans HV.out, s5, grown_alloc _ _ _⟩
  clear s1 s2 s3 s4 s5 HS HV hw
  go_wp2_with fail
  first | exact HP.out | (go_ret; exact HP.out)
def Makes (w : World) (b : Nat) (x : Int) (e : Ending) (w' : World) : Prop :=
  e = .returned (.pointer (some ⟨b, 0, none⟩)) ∧ IsI w' b x ∧ w.grownBy w' (some b)
theorem natAbs_val (neg : Bool) (z : Int) (h : 0 ≤ z) : z = (((if neg then -z else z).natAbs : Nat) : Int) := by cases neg <;> simp <;> omega
theorem gives_IsI {w : World} {b : Nat} {x y v : Value} {l : List Int} {neg : Bool} (hz : w.heap[b]? = some (.cells #[x, y] 74 (0, 0))) (hs : Sl w v l) (hw : WF l) (ht : Top l) (hl : l.length ≤ 8) (s : Bool) (hsn : s = (neg && decide (0 < l.length))) :
    Makes w b (if neg then -val l else val l) (.returned (.pointer (some ⟨b, 0, none⟩))) ((w.setCell ⟨b, 1, none⟩ v).setCell ⟨b, 0, none⟩ (.bool s)) := by
  have hv := (val_bd l hw).1
  have hpos : 0 < l.length → 0 < val l := fun h => by
    have h1 := val_ge l hw ht (List.length_pos_iff.1 h)
    have := P_pos (l.length - 1); omega
  have hsign : s = decide ((if neg then -val l else val l) < 0) := by
    rw [hsn]
    cases neg
    · simp; omega
    · by_cases h : 0 < l.length
      · have := hpos h; simp [h]; omega
      · have h0 : l = [] := List.length_eq_zero_iff.1 (by omega)
        subst h0; simp [val_nil]
  refine ⟨rfl, ⟨v, l, ?_, Sl_keep hs (grown_set2 w b _ _) (fun k e => by cases e; exact ⟨_, _, hz⟩), hw, ht, natAbs_val neg _ hv, hl⟩, grown_set2 w b _ _⟩
  rw [← hsign]
  exact heap_set2 hz _ _
theorem give_any (b : Nat) (neg : Bool) (v : Value) (l : List Int) (w : World) (hz : Struct w b) (hs : Sl w v l) (hw : WF l) (ht : Top l) (hl : l.length ≤ 8) :
    Calls Tryz.prog 85 #[.pointer (some ⟨b, 0, none⟩), .bool neg, v] w (Makes w b (if neg then -val l else val l)) := by
  obtain ⟨x, y, hz⟩ := hz
  obtain ⟨a, c, rfl⟩ := Sl_len hs
  have c0 : w.cell? ⟨b, 0, none⟩ = some x := by rw [cell_of_heap hz]; rfl
  have c1 : w.cell? ⟨b, 1, none⟩ = some y := by rw [cell_of_heap hz]; rfl
  have f0 : w.frozen? ⟨b, 0, none⟩ = false := frozen_of_heap hz 0
  have f1 : w.frozen? ⟨b, 1, none⟩ = false := frozen_of_heap hz 1
  have FIN : Hid (∀ s, s = (neg && decide (0 < l.length)) → Makes w b (if neg then -val l else val l) (.returned (.pointer (some ⟨b, 0, none⟩))) ((w.setCell ⟨b, 1, none⟩ (.slice a l.length c)).setCell ⟨b, 0, none⟩ (.bool s))) := fun s hsn => gives_IsI hz hs hw ht hl s hsn
  clear hs hw ht hz
  generalize Makes w b (if neg then -val l else val l) = T at *
  cases neg
  · go_enter Tryz.func85, Tryz.ntmps85
    go_wp2_with fail
    exact FIN.out false rfl
  · by_cases h : 0 < l.length
    · have F : Hid (T (.returned (.pointer (some ⟨b, 0, none⟩))) ((w.setCell ⟨b, 1, none⟩ (.slice a l.length c)).setCell ⟨b, 0, none⟩ (.bool true))) := FIN.out true (by simp [h])
      clear FIN
      go_enter Tryz.func85, Tryz.ntmps85
      go_wp2_with fail
      exact F.out
    · have F : Hid (T (.returned (.pointer (some ⟨b, 0, none⟩))) ((w.setCell ⟨b, 1, none⟩ (.slice a l.length c)).setCell ⟨b, 0, none⟩ (.bool false))) := FIN.out false (by simp [h])
      have h' : decide (0 < (l.length : Int)) = false := decide_eq_false (by omega)
      clear FIN
      go_enter Tryz.func85, Tryz.ntmps85
      go_wp2_with fail
      exact F.out
theorem P2 : P 2 = 18446744073709551616 := rfl
theorem P8 : P 8 = 115792089237316195423570985008687907853269984665640564039457584007913129639936 := rfl
theorem Makes_of {w w1 w' : World} {b : Nat} {x y : Int} {e : Ending} (h : Makes w1 b x e w') (hg : w.grownBy w1 none) (hx : x = y) : Makes w b y e w' := by
  obtain ⟨h1, h2, h3⟩ := h
  subst hx
  exact ⟨h1, h2, grown_trans hg h3 (some b) (fun i e _ => by cases e) (fun i e _ => e)⟩
theorem setInt64_any (b : Nat) (x : Int) (w : World) (hz : Struct w b) (h0 : -9223372036854775808 ≤ x) (h1 : x ≤ 9223372036854775807) :
    Calls Tryz.prog 153 #[.pointer (some ⟨b, 0, none⟩), .int .i64 x] w (Makes w b x) := by
  by_cases hn : x < 0
  · have e1 : Hid (IntKind.u64.wrap (-IntKind.u64.wrap x) = -x) := by unfold Hid; rw [IntKind.wrap_u64, IntKind.wrap_u64]; omega
    go_enter Tryz.func153, Tryz.ntmps153
    go_wp2_with fail
    rw [e1.out]
    refine (words_any _ _ (by omega) (by omega)).mono ?_
    rintro e w1 ⟨v', l', rfl, s1, s2, s3, s4, s5, s6⟩
    have F : Hid (∀ e' w2, Makes w1 b (if true then -val l' else val l') e' w2 → Makes w b x e' w2) := fun e' w2 h => Makes_of h s6 (by rw [s4]; simp)
    have hz1 := Struct_keep hz s6 (by simp)
    clear s4 s6 hz
    generalize Makes w b x = T at *
    go_wp2_with fail
    refine (give_any b true v' l' w1 hz1 s1 s2 s3 (by omega)).mono ?_
    intro e2 w2 hm
    have hm' := F.out e2 w2 hm
    obtain ⟨rfl, -⟩ := hm
    clear s1 s2 s3 hz1 F
    go_wp2_with fail
    exact hm'
  · go_enter Tryz.func153, Tryz.ntmps153
    go_wp2_with fail
    refine (words_any _ _ (by omega) (by omega)).mono ?_
    rintro e w1 ⟨v', l', rfl, s1, s2, s3, s4, s5, s6⟩
    have F : Hid (∀ e' w2, Makes w1 b (if false then -val l' else val l') e' w2 → Makes w b x e' w2) := fun e' w2 h => Makes_of h s6 (by rw [s4]; simp)
    have hz1 := Struct_keep hz s6 (by simp)
    clear s4 s6 hz
    generalize Makes w b x = T at *
    go_wp2_with fail
    refine (give_any b false v' l' w1 hz1 s1 s2 s3 (by omega)).mono ?_
    intro e2 w2 hm
    have hm' := F.out e2 w2 hm
    obtain ⟨rfl, -⟩ := hm
    clear s1 s2 s3 hz1 F
    go_wp2_with fail
    exact hm'
def News (w : World) (x : Int) (e : Ending) (w' : World) : Prop :=
  ∃ b, e = .returned (.pointer (some ⟨b, 0, none⟩)) ∧ w.heap.size ≤ b ∧ IsI w' b x ∧ w.grownBy w' none
def int0 : Obj := .cells #[.bool false, .slice none 0 0] 74
theorem struct_new (w : World) : Struct (w.alloc int0) w.heap.size := ⟨_, _, heap_new _ _⟩
theorem News_of {w w' : World} {x : Int} {e : Ending} (h : Makes (w.alloc int0) w.heap.size x e w') : News w x e w' := by
  obtain ⟨h1, h2, h3⟩ := h
  refine ⟨_, h1, Nat.le_refl _, h2, grown_trans (grown_alloc w int0 none) h3 none (fun i e _ => by cases e) (fun i e hi => by cases e; omega)⟩
theorem newInt_any (x : Int) (w : World) (h0 : -9223372036854775808 ≤ x) (h1 : x ≤ 9223372036854775807) :
    Calls Tryz.prog 88 #[.int .i64 x] w (News w x) := by
  have F : Hid (∀ e' w2, Makes (w.alloc int0) w.heap.size x e' w2 → News w x e' w2) := fun e' w2 h => News_of h
  generalize News w x = T at *
  go_enter Tryz.func88, Tryz.ntmps88
  go_wp2_with fail
  refine (setInt64_any w.heap.size x (w.alloc int0) (struct_new w) h0 h1).mono ?_
  intro e2 w2 hm
  have hm' := F.out e2 w2 hm
  obtain ⟨rfl, -⟩ := hm
  clear F
  go_wp2_with fail
  exact hm'
theorem whole_any (x : Int) (w : World) (h0 : -9223372036854775808 ≤ x) (h1 : x ≤ 9223372036854775807) :
    Calls Tryz.prog 40 #[.int .i64 x] w (News w x) := by
  go_enter Tryz.func40, Tryz.ntmps40
  go_wp2_with fail
  refine (newInt_any x w h0 h1).mono ?_
  intro e2 w2 hm
  have hm' := hm
  obtain ⟨b, rfl, -⟩ := hm
  generalize News w x = T at *
  go_wp2_with fail
  exact hm'
end Go.Proofs.YtjepkgdejkifcaaGreatDoor

/- BigB -/
namespace Go.Proofs.YtjepkgdejkifcaaGreatDoor
open Go.RowKit
set_option linter.unusedVariables false
set_option maxHeartbeats 1000000
theorem infoU32 : (Tryz.prog.info? 169).map (fun i => (i.zero, i.size, i.bytes)) = some (some (.int .u32 0), 1, 4) := by kernel_rfl
theorem made_arr (n : Nat) : madeCells #[.int .u32 0] n = arr (List.replicate n 0) := by
  unfold arr madeCells
  apply Array.ext
  · simp
  · intro i h1 h2
    simp [Nat.mod_one]
theorem make_u32 (z : Int) (h0 : 0 ≤ z) (h1 : z ≤ 10000) (u : World) :
    (Instr.makeSlice 72 (.int .i64 z) (.int .i64 z)).run Tryz.prog u = .ok (.slice (some ⟨u.heap.size, 0, none⟩) z.toNat z.toNat) (u.alloc (.cells (arr (List.replicate z.toNat 0)) 169)) := by
  obtain ⟨i0, hi, hz0, hz1, hz2⟩ := info_parts infoU32
  have h := run_make (P := Tryz.prog) u 72 169 i0 (.int .u32 0) Tryz.underlying72 hi hz0 .i64 .i64 z z h0 (Int.le_refl _) (by rw [hz2]; omega) (by omega)
  rw [← made_arr]
  simpa [hz1, Value.cells] using h
theorem or_add (x y : Int) (s : Nat) (hs : s ≤ 32) (hx : 0 ≤ x) (hx' : x < 2 ^ s) (hy : 0 ≤ y) (hd : (2 : Int) ^ s ∣ y) (hy' : y < 4294967296) : bits .or .u32 x y = x + y := by
  have hp : (2 : Int) ^ s ≤ 4294967296 := by
    have h1 : (2 : Nat) ^ s ≤ 2 ^ 32 := Nat.pow_le_pow_right (by omega) hs
    have e : ((2 ^ s : Nat) : Int) = (2 : Int) ^ s := by simp
    omega
  rw [u32_or x y hx (by omega) hy hy']
  obtain ⟨q, rfl⟩ := hd
  have hq : 0 ≤ q := by
    have hp0 : (0 : Int) < 2 ^ s := Int.pow_pos (by decide)
    exact Int.nonneg_of_mul_nonneg_right hy hp0
  obtain ⟨q, rfl⟩ := Int.eq_ofNat_of_zero_le hq
  obtain ⟨x, rfl⟩ := Int.eq_ofNat_of_zero_le hx
  have e : ((2 : Int) ^ s * (q : Int)) = ((2 ^ s * q : Nat) : Int) := by simp
  rw [e, Int.toNat_natCast, Int.toNat_natCast]
  have hx2 : x < 2 ^ s := by
    have e2 : ((2 ^ s : Nat) : Int) = (2 : Int) ^ s := by simp
    rw [← e2] at hx'; omega
  have h3 := Nat.shiftLeft_add_eq_or_of_lt hx2 q
  rw [Nat.shiftLeft_eq, Nat.mul_comm q] at h3
  rw [Nat.or_comm, ← h3]
  omega
theorem left_math (a : Int) (s : Nat) (hs : s < 32) (h0 : 0 ≤ a) (h1 : a < 4294967296) :
    0 ≤ a * 2 ^ s ∧ a * 2 ^ s < 18446744073709551616 ∧ (2 : Int) ^ s ∣ a * 2 ^ s % 4294967296 ∧ a * 2 ^ s / 4294967296 < 2 ^ s ∧ a * 2 ^ s % 4294967296 ≤ 4294967296 - 2 ^ s := by
  have e : (4294967296 : Int) = 2 ^ (32 - s) * 2 ^ s := by rw [← Int.pow_add, show 32 - s + s = 32 by omega]; rfl
  have hp0 : (0 : Int) < 2 ^ s := Int.pow_pos (by decide)
  have hq0 : (0 : Int) < 2 ^ (32 - s) := Int.pow_pos (by decide)
  have hd : (2 : Int) ^ s ∣ a * 2 ^ s % 4294967296 := by
    rw [e, Int.mul_comm a, Int.mul_comm (2 ^ (32 - s)), Int.mul_emod_mul_of_pos _ _ hp0]
    exact Int.dvd_mul_right _ _
  have hle : (2 : Int) ^ s ≤ 2147483648 := by
    have h1 : (2 : Nat) ^ s ≤ 2 ^ 31 := Nat.pow_le_pow_right (by omega) (by omega)
    have e : ((2 ^ s : Nat) : Int) = (2 : Int) ^ s := by simp
    omega
  have hm : a * 2 ^ s ≤ 4294967295 * 2 ^ s := Int.mul_le_mul_of_nonneg_right (by omega) (by omega)
  refine ⟨Int.mul_nonneg h0 (by omega), by omega, hd, ?_, ?_⟩
  · apply Int.ediv_lt_of_lt_mul (by omega)
    have : a * 2 ^ s < 4294967296 * 2 ^ s := Int.mul_lt_mul_of_pos_right h1 hp0
    rw [Int.mul_comm (2 ^ s)]; omega
  · have e2 : a * 2 ^ s % 4294967296 = (a % 2 ^ (32 - s)) * 2 ^ s := by
      rw [e, Int.mul_comm a, Int.mul_comm (2 ^ (32 - s)), Int.mul_emod_mul_of_pos _ _ hp0, Int.mul_comm]
    rw [e2]
    have h3 : a % 2 ^ (32 - s) + 1 ≤ 2 ^ (32 - s) := Int.emod_lt_of_pos a hq0
    have h4 : (a % 2 ^ (32 - s) + 1) * 2 ^ s ≤ 2 ^ (32 - s) * 2 ^ s := Int.mul_le_mul_of_nonneg_right h3 (by omega)
    rw [Int.add_mul, ← e] at h4
    omega
def LeftAt (a : List Int) (q s k : Nat) (rs : List Int) : Prop :=
  rs.length = a.length + q + 1 ∧ WF rs ∧ valTo rs (k + q + 1) = valTo a k * 2 ^ s * P q ∧ nth rs (k + q) < 2 ^ s ∧ ∀ j, k + q < j → nth rs j = 0
theorem left_start (a : List Int) (q s : Nat) : LeftAt a q s 0 (List.replicate (a.length + q + 1) 0) := by
  refine ⟨by simp, WF_zeros _, ?_, ?_, fun j _ => getD_zeros _ _⟩
  · rw [valTo_zeros]; simp [valTo]
  · rw [getD_zeros]; exact Int.pow_pos (by decide)
theorem left_round (a : List Int) (q s k : Nat) (rs : List Int) (ha : WF a) (hs : s < 32) (hk : k < a.length) (h : LeftAt a q s k rs) :
    LeftAt a q s (k + 1) ((rs.set (k + q) (bits .or .u32 (nth rs (k + q)) (nth a k * 2 ^ s % 4294967296))).set (k + q + 1) (bits .or .u32 (nth rs (k + q + 1)) (nth a k * 2 ^ s / 4294967296))) := by
  obtain ⟨h1, h2, h3, h4, h5⟩ := h
  obtain ⟨m0, m1, m2, m3, m4⟩ := left_math (nth a k) s hs (ha k).1 (ha k).2
  have hp0 : (0 : Int) < 2 ^ s := Int.pow_pos (by decide)
  have hle : (2 : Int) ^ s ≤ 2147483648 := by
    have h1 : (2 : Nat) ^ s ≤ 2 ^ 31 := Nat.pow_le_pow_right (by omega) (by omega)
    have e : ((2 ^ s : Nat) : Int) = (2 : Int) ^ s := by simp
    omega
  rw [or_add _ _ s (by omega) (h2 _).1 h4 (by omega) m2 (by omega)]
  rw [h5 (k + q + 1) (by omega), or_add 0 _ 0 (by omega) (by omega) (by decide) (by omega) (by simp) (by omega), Int.zero_add]
  generalize hv : nth a k * 2 ^ s = v at *
  have w1 := h2 (k + q)
  have l1 : (rs.set (k + q) (nth rs (k + q) + v % 4294967296)).length = rs.length := by simp
  have wf1 := WF_set rs (k + q) (nth rs (k + q) + v % 4294967296) h2 (by omega) (by omega) (by omega)
  have nn : ∀ i, nth ((rs.set (k + q) (nth rs (k + q) + v % 4294967296)).set (k + q + 1) (v / 4294967296)) i = if i = k + q + 1 then v / 4294967296 else if i = k + q then nth rs (k + q) + v % 4294967296 else nth rs i := by
    intro i
    rw [set_getD _ _ _ _ (by rw [l1]; omega), set_getD _ _ _ _ (by omega)]
  refine ⟨by simp; omega, WF_set _ _ _ wf1 (by rw [l1]; omega) (by omega) (by omega), ?_, ?_, ?_⟩
  · rw [show k + 1 + q + 1 = k + q + 1 + 1 by omega, valTo, valTo, nn, if_pos rfl, nn, if_neg (by omega), if_pos rfl]
    rw [valTo_congr _ rs (k + q) (fun i hi => by rw [nn, if_neg (by omega), if_neg (by omega)])]
    rw [valTo] at h3
    have e0 : valTo a (k + 1) * 2 ^ s * P q = valTo a k * 2 ^ s * P q + nth a k * P k * 2 ^ s * P q := by rw [valTo, Int.add_mul, Int.add_mul]
    rw [e0, ← h3, P_succ]
    have e1 : nth a k * P k * 2 ^ s * P q = v * P (k + q) := by
      rw [← hv, P_add, Int.mul_right_comm (nth a k), Int.mul_assoc]
    rw [e1]
    have e2 : v = v % 4294967296 + 4294967296 * (v / 4294967296) := (Int.emod_add_mul_ediv v 4294967296).symm
    have e3 : v * P (k + q) = v % 4294967296 * P (k + q) + v / 4294967296 * (P (k + q) * 4294967296) := by
      conv => lhs; rw [e2]
      rw [Int.add_mul, Int.mul_comm 4294967296, Int.mul_assoc, Int.mul_comm 4294967296]
    rw [e3, Int.add_mul]
    omega
  · rw [show k + 1 + q = k + q + 1 by omega, nn, if_pos rfl]; exact m3
  · intro j hj
    rw [nn, if_neg (by omega), if_neg (by omega)]
    exact h5 j (by omega)
theorem left_any (v : Value) (l : List Int) (q s : Nat) (w : World) (hsl : Sl w v l) (hw : WF l) (hl : l.length ≤ 40) (hq : q ≤ 40) (hs : s < 32) :
    Calls Tryz.prog 86 #[v, .int .u64 (32 * q + s)] w (Gives w (val l * 2 ^ s * P q) (l.length + q + 1)) := by
  rcases hsl with ⟨rfl, rfl⟩ | ⟨b, c, cs, rfl, hc, hb, hcs⟩
  · have F : Gives w (val [] * 2 ^ s * P q) (0 + q + 1) (.returned (.slice none 0 0)) w := ⟨_, [], rfl, Sl_nil _, WF_nil, Top_nil, by simp [val_nil], by simp, grown_refl _ _⟩
    have HF := hide F
    clear F
    generalize Gives w _ _ = T at *
    go_enter Tryz.func86, Tryz.ntmps86
    go_wp2_with fail
    exact HF.out
  · by_cases h0 : l.length = 0
    · have F : Gives w (val l * 2 ^ s * P q) (l.length + q + 1) (.returned (.slice none 0 0)) w := ⟨_, [], rfl, Sl_nil _, WF_nil, Top_nil, by rw [List.length_eq_zero_iff.1 h0]; simp [val_nil], by simp, grown_refl _ _⟩
      have HF := hide F
      have hb0 : ((l.length : Int) == 0) = true := by simp [h0]
      clear F h0
      generalize Gives w _ _ = T at *
      go_enter Tryz.func86, Tryz.ntmps86
      go_wp2_with fail
      exact HF.out
    · have hcell : ∀ i, i < l.length → w.cell? ⟨b, i, none⟩ = some (.int .u32 (nth l i)) := fun i hi => by rw [cell_of_heap hb]; exact hcs i hi
      have hbs := lt_of_some hb
      have hb0 : ((l.length : Int) == 0) = false := beq_eq_false_iff_ne.2 (by omega)
      have hq1 : (32 * (q : Int) + s) / 32 = q := by omega
      have hs1 : (32 * (q : Int) + s) % 32 = s := by omega
      have hmk := fun u => make_u32 ((l.length : Int) + q + 1) (by omega) (by omega) u
      have hn : ((l.length : Int) + q + 1).toNat = l.length + q + 1 := by omega
      rw [hn] at hmk
      clear hn h0 hb hcs
      go_enter Tryz.func86, Tryz.ntmps86
      go_wp2_with fail
      go_loopw [8] (fun i wr => ∃ (k : Nat) (rs : List Int), i = .int .i64 k ∧ k ≤ l.length ∧ Hid (LeftAt l q s k rs) ∧ wr = w.alloc (.cells (arr rs) 169)) (fun i _ => l.length - (intOf i).toNat)
      case atStart => exact ⟨0, _, rfl, Nat.zero_le _, left_start l q s, rfl⟩
      case round =>
        obtain ⟨k, rs, rfl, hk, hL, rfl⟩ := hrel
        by_cases hkl : k < l.length
        · have hck := hcell k hkl
          have hL' := hide (left_round l q s k rs hw hs hkl hL.out)
          have hlen : Hid (rs.length = l.length + q + 1) := hL.out.1
          have g1 := arr_get rs (k + q) (by rw [hlen.out]; omega)
          have g2 := arr_get rs (k + q + 1) (by rw [hlen.out]; omega)
          obtain ⟨z0, z1⟩ := hw k
          obtain ⟨t0, t1, t2, t3, t4⟩ := left_math (nth l k) s hs z0 z1
          clear hcell t2 t3 t4
          go_wp2_with fail
          go_roundw
          case rel => exact ⟨k + 1, _, by go_num, by omega, hL'.out, by rw [arr_set, arr_set]⟩
          case measure => simp [intOf]; omega
        · have hkk : k = l.length := by omega
          have hwf := hide hL.out.2.1
          have hval : Hid (val rs = val l * 2 ^ s * P q) := by
            obtain ⟨h1, h2, h3, -⟩ := hL.out
            unfold Hid
            rw [← valTo_all rs (k + q + 1) (by omega), h3, valTo_all l k (by omega)]
          have hsl := hide (Sl_own w rs (l.length + q + 1) hL.out.1)
          have hlen : Hid (rs.length = l.length + q + 1) := hL.out.1
          clear hcell hkk hL
          go_wp2_with fail
          refine (trim_any _ rs _ hsl.out hwf.out (by rw [hlen.out]; omega)).mono ?_
          rintro e w1 ⟨v', l', rfl, s1, s2, s3, s4, s5, rfl⟩
          have F := hide (show Gives w (val l * 2 ^ s * P q) (l.length + q + 1) (.returned v') _ from ⟨v', l', rfl, s1, s2, s3, s4.trans hval.out, by rw [hlen.out] at s5; exact s5, grown_alloc _ _ _⟩)
          clear s1 s2 s3 s4 s5 hsl hwf hval hlen
          generalize Gives w (val l * 2 ^ s * P q) (l.length + q + 1) = T at *
          go_wp2_with fail
          exact F.out
end Go.Proofs.YtjepkgdejkifcaaGreatDoor

/- BigC -/
namespace Go.Proofs.YtjepkgdejkifcaaGreatDoor
open Go.RowKit
set_option linter.unusedVariables false
set_option maxHeartbeats 1000000
def cmp3 (x y : Int) : Int := if x < y then -1 else if y < x then 1 else 0
def Asks (w : World) (r : Value) (e : Ending) (w' : World) : Prop := e = .returned r ∧ ∃ n, w' = w.drewN n
theorem bcmp_any (va vb : Value) (a b : List Int) (w : World) (ha : Sl w va a) (hb : Sl w vb b) (wa : WF a) (wb : WF b) (ta : Top a) (tb : Top b) (la : a.length ≤ 100) (lb : b.length ≤ 100) :
    Calls Tryz.prog 152 #[va, vb] w (Asks w (.int .i64 (cmp3 (val a) (val b)))) := by
  obtain ⟨ada, ca, rfl, hva⟩ := Sl_view ha
  obtain ⟨adb, cb, rfl, hvb⟩ := Sl_view hb
  clear ha hb
  by_cases hl : a.length = b.length
  · have hne : ((a.length : Int) != b.length) = false := by simp [hl]
    have E : Hid (cmp3 (val a) (val b) = cmp3 (valTo a a.length) (valTo b a.length)) := by unfold Hid val; rw [hl]
    rw [E.out]
    have HL := hide hl
    clear hl E
    have R : Hid (∀ (r : Int) (n : Nat), r = cmp3 (valTo a a.length) (valTo b a.length) → Asks w (.int .i64 (cmp3 (valTo a a.length) (valTo b a.length))) (.returned (.int .i64 r)) (w.drewN n)) := fun r n h => ⟨by rw [h], n, rfl⟩
    generalize Asks w (.int .i64 (cmp3 (valTo a a.length) (valTo b a.length))) = T at *
    go_enter Tryz.func152, Tryz.ntmps152
    go_wp2_with fail
    go_loopw [5] (fun i wr => ∃ k n : Nat, i = .int .i64 ((k : Int) - 1) ∧ k ≤ a.length ∧ Hid (∀ j, k ≤ j → j < a.length → nth a j = nth b j) ∧ wr = w.drewN n) (fun i _ => (intOf i + 1).toNat)
    case atStart => exact ⟨a.length, 0, rfl, Nat.le_refl _, fun j h1 h2 => by omega, rfl⟩
    case round =>
      obtain ⟨k, n, rfl, hk, hs, rfl⟩ := hrel
      cases k with
      | zero =>
        have F := hide (R.out 0 n (by unfold cmp3; rw [cmp_same a b a.length (fun i hi => hs.out i (by omega) hi)]; simp))
        clear R hva hvb
        go_wp2_with fail
        exact F.out
      | succ j =>
        obtain ⟨ba, rfl, hba, hca⟩ := hva (by omega)
        obtain ⟨bb, rfl, hbb, hcb⟩ := hvb (by rw [← HL.out]; omega)
        have c1 := hca j (by omega)
        have c2 := hcb j (by rw [← HL.out]; omega)
        clear hca hcb hva hvb
        have hja : (j : Int) < a.length := by omega
        have hjb : (j : Int) < b.length := by rw [← HL.out]; omega
        have ej : (((j + 1 : Nat)) : Int) - 1 = (j : Int) := by omega
        rw [ej]
        clear ej
        by_cases h : nth a j = nth b j
        · have hne2 : (nth a j != nth b j) = false := by simp [h]
          have H := hide h
          clear h R
          go_wp2_with fail
          go_quiet (fail)
          go_wp2_with fail
          go_roundw
          case rel => exact ⟨j, _, rfl, by omega, fun i h1 h2 => by by_cases e : i = j; exact (by rw [e]; exact H.out); exact hs.out i (by omega) h2, rfl⟩
          case measure => simp [intOf]
        · have hne2 : (nth a j != nth b j) = true := by simp [h]
          by_cases hlt : nth a j < nth b j
          · have e : -1 = cmp3 (valTo a a.length) (valTo b a.length) := by
              have := cmp_math a b wa wb a.length j (by omega) (fun i h1 h2 => hs.out i (by omega) h2) hlt
              unfold cmp3; rw [if_pos this]
            have F := hide (fun n => R.out (-1) n e)
            clear e R h
            go_wp2_with fail
            go_quiet (fail)
            go_wp2_with fail
            go_quiet (fail)
            go_wp2_with fail
            rw [World.drewN_drewN, World.drewN_drewN]
            exact F.out _
          · have e : 1 = cmp3 (valTo a a.length) (valTo b a.length) := by
              have := cmp_math b a wb wa a.length j (by omega) (fun i h1 h2 => (hs.out i (by omega) h2).symm) (by omega)
              unfold cmp3; rw [if_neg (by omega), if_pos this]
            have F := hide (fun n => R.out 1 n e)
            clear e R h
            go_wp2_with fail
            go_quiet (fail)
            go_wp2_with fail
            go_quiet (fail)
            go_wp2_with fail
            rw [World.drewN_drewN, World.drewN_drewN]
            exact F.out _
  · have hne : ((a.length : Int) != b.length) = true := by simp; omega
    by_cases hlt : a.length < b.length
    · have e : cmp3 (val a) (val b) = -1 := by unfold cmp3; rw [if_pos (cmp_short a b wa wb tb hlt)]
      rw [e]
      have hlt' : (a.length : Int) < b.length := by omega
      have F := hide (show Asks w (.int .i64 (-1)) (.returned (.int .i64 (-1))) w from ⟨rfl, 0, rfl⟩)
      clear e hva hvb hl hlt
      generalize Asks w (.int .i64 (-1)) = T at *
      go_enter Tryz.func152, Tryz.ntmps152
      go_wp2_with fail
      exact F.out
    · have e : cmp3 (val a) (val b) = 1 := by
        have := cmp_short b a wb wa ta (by omega)
        unfold cmp3; rw [if_neg (by omega), if_pos this]
      rw [e]
      have hlt' : ¬ (a.length : Int) < b.length := by omega
      have F := hide (show Asks w (.int .i64 1) (.returned (.int .i64 1)) w from ⟨rfl, 0, rfl⟩)
      clear e hva hvb hl hlt
      generalize Asks w (.int .i64 1) = T at *
      go_enter Tryz.func152, Tryz.ntmps152
      go_wp2_with fail
      exact F.out
def AddAt (a b : List Int) (n k : Nat) (c : Int) (rs : List Int) : Prop :=
  rs.length = n ∧ WF rs ∧ valTo rs k + c * P k = valTo a k + valTo b k ∧ 0 ≤ c ∧ c ≤ 1 ∧ ∀ j, k ≤ j → nth rs j = 0
theorem add_start (a b : List Int) (n : Nat) : AddAt a b n 0 0 (List.replicate n 0) :=
  ⟨by simp, WF_zeros _, by simp [valTo], by omega, by omega, fun j _ => getD_zeros _ _⟩
theorem add_round (a b : List Int) (n k : Nat) (c d : Int) (rs : List Int) (wa : WF a) (wb : WF b) (hk : k < n) (h : AddAt a b n k c rs) (hd : d = c + nth a k + nth b k) :
    AddAt a b n (k + 1) (d / 4294967296) (rs.set k (d % 4294967296)) := by
  obtain ⟨h1, h2, h3, h4, h5, h6⟩ := h
  have x1 := wa k; have x2 := wb k
  have nn : ∀ i, nth (rs.set k (d % 4294967296)) i = if i = k then d % 4294967296 else nth rs i := fun i => set_getD _ _ _ _ (by omega)
  refine ⟨by simp; omega, WF_set _ _ _ h2 (by omega) (by omega) (by omega), ?_, by omega, by omega, fun j hj => by rw [nn, if_neg (by omega)]; exact h6 j (by omega)⟩
  rw [valTo, valTo, valTo, nn, if_pos rfl, valTo_congr _ rs k (fun i hi => by rw [nn, if_neg (by omega)]), P_succ]
  have e2 : d = d % 4294967296 + 4294967296 * (d / 4294967296) := (Int.emod_add_mul_ediv d 4294967296).symm
  have e3 : d * P k = d % 4294967296 * P k + d / 4294967296 * (P k * 4294967296) := by
    conv => lhs; rw [e2]
    rw [Int.add_mul, Int.mul_comm 4294967296, Int.mul_assoc, Int.mul_comm 4294967296]
  have e4 : d * P k = c * P k + nth a k * P k + nth b k * P k := by rw [hd, Int.add_mul, Int.add_mul]
  omega
theorem add_end (a b : List Int) (z : Int) (rs : List Int) (wa : WF a) (wb : WF b) (hl : b.length ≤ a.length) (h : AddAt a b (a.length + 1) a.length z rs) :
    WF (rs.set a.length z) ∧ val (rs.set a.length z) = val a + val b := by
  obtain ⟨h1, h2, h3, h4, h5, h6⟩ := h
  have nn : ∀ i, nth (rs.set a.length z) i = if i = a.length then z else nth rs i := fun i => set_getD _ _ _ _ (by omega)
  refine ⟨WF_set _ _ _ h2 (by omega) (by omega) (by omega), ?_⟩
  rw [← valTo_all (rs.set a.length z) (a.length + 1) (by rw [List.length_set]; omega), valTo, nn, if_pos rfl, valTo_congr _ rs a.length (fun i hi => by rw [nn, if_neg (by omega)]), h3, valTo_all b _ hl]
  rfl
theorem badd_any (va vb : Value) (a b : List Int) (w : World) (ha : Sl w va a) (hb : Sl w vb b) (wa : WF a) (wb : WF b) (la : a.length ≤ 40) (lb : b.length ≤ 40) :
    Calls Tryz.prog 145 #[va, vb] w (Gives w (val a + val b) (max a.length b.length + 1)) := by
  obtain ⟨ada, ca, rfl, hva⟩ := Sl_view ha
  obtain ⟨adb, cb, rfl, hvb⟩ := Sl_view hb
  clear ha hb
  by_cases hl : a.length < b.length
  · have hlt : (a.length : Int) < b.length := by omega
    rw [Nat.max_eq_right (by omega)]
    have hmk := fun u => make_u32 ((b.length : Int) + 1) (by omega) (by omega) u
    have hn : ((b.length : Int) + 1).toNat = b.length + 1 := by omega
    rw [hn] at hmk
    clear hn
    go_enter Tryz.func145, Tryz.ntmps145
    go_wp2_with fail
    go_loopw [6, 7] (fun c i wr => ∃ (k : Nat) (z : Int) (rs : List Int), c = .int .u64 z ∧ i = .int .i64 k ∧ k ≤ b.length ∧ Hid (AddAt b a (b.length + 1) k z rs) ∧ wr = w.alloc (.cells (arr rs) 169)) (fun _ i _ => b.length - (intOf i).toNat)
    case atStart => exact ⟨0, 0, _, rfl, rfl, Nat.zero_le _, add_start b a _, rfl⟩
    case round =>
      obtain ⟨k, z, rs, rfl, rfl, hk, hA, rfl⟩ := hrel
      obtain ⟨z0, z1⟩ : 0 ≤ z ∧ z ≤ 1 := ⟨hA.out.2.2.2.1, hA.out.2.2.2.2.1⟩
      have hlen : Hid (rs.length = b.length + 1) := hA.out.1
      by_cases hka : k < b.length
      · obtain ⟨bb, rfl, hbb, hcb⟩ := hvb (by omega)
        have c1 := hcb k hka
        obtain ⟨x0, x1⟩ := wb k
        have g1 := arr_get rs k (by rw [hlen.out]; omega)
        by_cases hkb : k < a.length
        · obtain ⟨ba, rfl, hba, hca⟩ := hva (by omega)
          have c2 := hca k hkb
          obtain ⟨y0, y1⟩ := wa k
          have hA' := hide (add_round b a (b.length + 1) k z (z + nth b k + nth a k) rs wb wa (by omega) hA.out rfl)
          clear hca hcb hva hvb hmk
          go_wp2_with fail
          go_roundw
          case rel => exact ⟨k + 1, _, _, rfl, by go_num, by omega, hA'.out, by rw [arr_set]⟩
          case measure => simp [intOf]; omega
        · have hA' := hide (add_round b a (b.length + 1) k z (z + nth b k) rs wb wa (by omega) hA.out (by rw [getD_out a k (by omega)]; omega))
          clear hva hvb hcb hmk
          go_wp2_with fail
          go_roundw
          case rel => exact ⟨k + 1, _, _, rfl, by go_num, by omega, hA'.out, by rw [arr_set]⟩
          case measure => simp [intOf]; omega
      · have hkk : k = b.length := by omega
        subst hkk
        have F := hide (add_end b a z rs wb wa (by omega) hA.out)
        have g1 := arr_get rs b.length (by rw [hlen.out]; omega)
        have hz : z % 4294967296 = z := by omega
        have hsl := hide (Sl_own w (rs.set b.length z) (b.length + 1) (by rw [List.length_set]; exact hlen.out))
        have hln : Hid ((rs.set b.length z).length = b.length + 1) := by unfold Hid; rw [List.length_set]; exact hlen.out
        clear hA hva hvb hmk
        go_wp2_with fail
        rw [arr_set]
        refine (trim_any _ (rs.set b.length z) _ hsl.out F.out.1 (by rw [hln.out]; omega)).mono ?_
        rintro e w1 ⟨v', l', rfl, s1, s2, s3, s4, s5, rfl⟩
        have G := hide (show Gives w (val a + val b) (b.length + 1) (.returned v') _ from ⟨v', l', rfl, s1, s2, s3, s4.trans (F.out.2.trans (by omega)), by rw [hln.out] at s5; exact s5, grown_alloc _ _ _⟩)
        clear s1 s2 s3 s4 s5 hsl hln hlen F
        generalize Gives w (val a + val b) (b.length + 1) = T at *
        go_wp2_with fail
        exact G.out
  · have hlt : ¬ (a.length : Int) < b.length := by omega
    rw [Nat.max_eq_left (by omega)]
    have hmk := fun u => make_u32 ((a.length : Int) + 1) (by omega) (by omega) u
    have hn : ((a.length : Int) + 1).toNat = a.length + 1 := by omega
    rw [hn] at hmk
    clear hn
    go_enter Tryz.func145, Tryz.ntmps145
    go_wp2_with fail
    go_loopw [6, 7] (fun c i wr => ∃ (k : Nat) (z : Int) (rs : List Int), c = .int .u64 z ∧ i = .int .i64 k ∧ k ≤ a.length ∧ Hid (AddAt a b (a.length + 1) k z rs) ∧ wr = w.alloc (.cells (arr rs) 169)) (fun _ i _ => a.length - (intOf i).toNat)
    case atStart => exact ⟨0, 0, _, rfl, rfl, Nat.zero_le _, add_start a b _, rfl⟩
    case round =>
      obtain ⟨k, z, rs, rfl, rfl, hk, hA, rfl⟩ := hrel
      obtain ⟨z0, z1⟩ : 0 ≤ z ∧ z ≤ 1 := ⟨hA.out.2.2.2.1, hA.out.2.2.2.2.1⟩
      have hlen : Hid (rs.length = a.length + 1) := hA.out.1
      by_cases hka : k < a.length
      · obtain ⟨ba, rfl, hba, hca⟩ := hva (by omega)
        have c1 := hca k hka
        obtain ⟨x0, x1⟩ := wa k
        have g1 := arr_get rs k (by rw [hlen.out]; omega)
        by_cases hkb : k < b.length
        · obtain ⟨bb, rfl, hbb, hcb⟩ := hvb (by omega)
          have c2 := hcb k hkb
          obtain ⟨y0, y1⟩ := wb k
          have hA' := hide (add_round a b (a.length + 1) k z (z + nth a k + nth b k) rs wa wb (by omega) hA.out rfl)
          clear hca hcb hva hvb hmk
          go_wp2_with fail
          go_roundw
          case rel => exact ⟨k + 1, _, _, rfl, by go_num, by omega, hA'.out, by rw [arr_set]⟩
          case measure => simp [intOf]; omega
        · have hA' := hide (add_round a b (a.length + 1) k z (z + nth a k) rs wa wb (by omega) hA.out (by rw [getD_out b k (by omega)]; omega))
          clear hva hvb hca hmk
          go_wp2_with fail
          go_roundw
          case rel => exact ⟨k + 1, _, _, rfl, by go_num, by omega, hA'.out, by rw [arr_set]⟩
          case measure => simp [intOf]; omega
      · have hkk : k = a.length := by omega
        subst hkk
        have F := hide (add_end a b z rs wa wb (by omega) hA.out)
        have g1 := arr_get rs a.length (by rw [hlen.out]; omega)
        have hz : z % 4294967296 = z := by omega
        have hsl := hide (Sl_own w (rs.set a.length z) (a.length + 1) (by rw [List.length_set]; exact hlen.out))
        have hln : Hid ((rs.set a.length z).length = a.length + 1) := by unfold Hid; rw [List.length_set]; exact hlen.out
        clear hA hva hvb hmk
        go_wp2_with fail
        rw [arr_set]
        refine (trim_any _ (rs.set a.length z) _ hsl.out F.out.1 (by rw [hln.out]; omega)).mono ?_
        rintro e w1 ⟨v', l', rfl, s1, s2, s3, s4, s5, rfl⟩
        have G := hide (show Gives w (val a + val b) (a.length + 1) (.returned v') _ from ⟨v', l', rfl, s1, s2, s3, s4.trans (F.out.2.trans (by omega)), by rw [hln.out] at s5; exact s5, grown_alloc _ _ _⟩)
        clear s1 s2 s3 s4 s5 hsl hln hlen F
        generalize Gives w (val a + val b) (a.length + 1) = T at *
        go_wp2_with fail
        exact G.out
end Go.Proofs.YtjepkgdejkifcaaGreatDoor

/- TabF -/
namespace Go.Proofs.YtjepkgdejkifcaaGreatDoor
open Go.RowKit
def TabA (w : World) (g : Nat) (zs : List Int) (n : Nat) : Prop := ∀ i : Nat, i < n → w.cell? ⟨g, i, none⟩ = some (.int .i64 (zs.getD i 0))
def TabS (w : World) (g : Nat) (a : Addr) (c : Nat) (zs : List Int) (n : Nat) : Prop :=
  w.cell? ⟨g, 0, none⟩ = some (.slice (some a) n c) ∧ n ≤ c ∧ ∀ i : Nat, i < n → w.cell? (a.add i) = some (.int .i64 (zs.getD i 0))
theorem TabA_keep {w w' : World} {g n : Nat} {zs : List Int} (h : TabA w g zs n) (k : w.grownBy w' none) : TabA w' g zs n := fun i hi => grown_keep k (h i hi)
theorem TabS_keep {w w' : World} {g n c : Nat} {a : Addr} {zs : List Int} (h : TabS w g a c zs n) (k : w.grownBy w' none) : TabS w' g a c zs n :=
  ⟨grown_keep k h.1, h.2.1, fun i hi => grown_keep k (h.2.2 i hi)⟩
end Go.Proofs.YtjepkgdejkifcaaGreatDoor

/- QuantA -/
namespace Go.Proofs.YtjepkgdejkifcaaGreatDoor
open Go.RowKit
set_option linter.unusedVariables false
set_option maxHeartbeats 1000000
def Wide (w : World) : Prop := ∀ i : Nat, i < 8 → w.cell? ⟨2, i, none⟩ = some (.int .i64 (wid i : Int))
theorem Wide_keep {w w' : World} (h : Wide w) (g : w.grownBy w' none) : Wide w' := fun i hi => grown_keep g (h i hi)
theorem okW (i : Nat) : okB (wid i) := wid_in i
theorem qin_yes (x l m : Int) (h1 : l ≤ x) (h2 : x ≤ m) (w : World) :
    Calls Tryz.prog 198 #[.int .i64 x, .int .i64 l, .int .i64 m] w fun e w' => e = .returned (.bool true) ∧ w' = w := by
  go_enter Tryz.func198, Tryz.ntmps198
  go_wp2
  go_ret
  exact ⟨rfl, rfl⟩
theorem qin_no (x l m : Int) (h : x < l ∨ m < x) (w : World) :
    Calls Tryz.prog 198 #[.int .i64 x, .int .i64 l, .int .i64 m] w fun e w' => e = .returned (.bool false) ∧ w' = w := by
  by_cases h1 : l ≤ x
  · have h2 : ¬ x ≤ m := by omega
    clear h
    go_enter Tryz.func198, Tryz.ntmps198
    go_wp2
    go_ret
    exact ⟨rfl, rfl⟩
  · clear h
    go_enter Tryz.func198, Tryz.ntmps198
    go_wp2
    go_ret
    exact ⟨rfl, rfl⟩
theorem known_yes (i : Nat) (h : i < 8) (w : World) :
    Calls Tryz.prog 192 #[.int .i64 i] w fun e w' => e = .returned (.bool true) ∧ w' = w := by
  go_enter Tryz.func192, Tryz.ntmps192
  go_wp2_with fail
  refine (qin_yes _ _ _ (by omega) (by omega) _).mono ?_
  rintro e w1 ⟨rfl, rfl⟩
  go_wp2_with fail
  go_ret
  exact ⟨rfl, rfl⟩
theorem known_no (i : Int) (h : i < 0 ∨ 7 < i) (w : World) :
    Calls Tryz.prog 192 #[.int .i64 i] w fun e w' => e = .returned (.bool false) ∧ w' = w := by
  go_enter Tryz.func192, Tryz.ntmps192
  go_wp2_with fail
  refine (qin_no _ _ _ h _).mono ?_
  rintro e w1 ⟨rfl, rfl⟩
  go_wp2_with fail
  go_ret
  exact ⟨rfl, rfl⟩
theorem count_any (i : Nat) (h : i < 8) (w : World) (hW : Wide w) :
    Calls Tryz.prog 199 #[.int .i64 i] w fun e w' => e = .returned (.int .i64 (many (wid i) : Int)) ∧ w' = w := by
  have hc := hW i h
  clear hW
  rcases wid_in i with e | e | e | e <;> rw [e] at hc ⊢ <;> clear e
  all_goals
    go_enter Tryz.func199, Tryz.ntmps199
    go_wp2_with fail
    go_ret
    exact ⟨rfl, rfl⟩
end Go.Proofs.YtjepkgdejkifcaaGreatDoor

/- QuantB -/
namespace Go.Proofs.YtjepkgdejkifcaaGreatDoor
open Go.RowKit
set_option linter.unusedVariables false
set_option maxHeartbeats 1000000
theorem two_pow (b : Nat) : (2 : Int) ^ (2 * b) = (many b : Int) * (many b : Int) := by
  unfold many
  rw [Nat.two_mul, Int.pow_add]
  simp
theorem level_up (i : Nat) (h : i < 8) (n : Int) (h1 : (many (wid i) : Int) ≤ 2 * n) (h2 : n < many (wid i)) (w : World) (hW : Wide w) :
    Calls Tryz.prog 200 #[.int .i64 i, .int .i64 n] w fun e w' => e = .returned (.int .i64 (upL (many (wid i)) n)) ∧ w' = w := by
  have C := hide (count_any i h w hW)
  have hc := hW i h
  have hb := hide (upL_bd (wid i) n (okW i) h1 h2)
  obtain ⟨q, hq⟩ := many_even (wid i) (okW i)
  obtain ⟨m1, m2⟩ := many_bd (wid i) (okW i)
  have hs := sq_bdQ (many (wid i)) (2 * ((many (wid i) : Int) - n) - 1) (by omega) (by omega) (by omega) (by omega)
  have hU := hide (show upL (many (wid i)) n = 31000 - 31000 * (2 * ((many (wid i) : Int) - n) - 1) * (2 * ((many (wid i) : Int) - n) - 1) / (many (wid i) * many (wid i)) from rfl)
  have hp := two_pow (wid i)
  have hb' : wid i ≤ 6 := by rcases okW i with e | e | e | e <;> omega
  clear hW
  generalize upL (many (wid i)) n = U at *
  generalize hM : many (wid i) = M at *
  generalize hB : wid i = b at *
  clear hM hq
  have hlt : ¬ n < (M : Int) / 2 := by omega
  obtain ⟨s1, s2, s3, s4, s5, s6⟩ := hs
  go_enter Tryz.func200, Tryz.ntmps200
  go_wp2_with fail
  refine C.out.mono ?_
  rintro e w1 ⟨rfl, rfl⟩
  clear C
  go_wp2_with fail
  go_ret
  exact ⟨by rw [hU.out]; rfl, rfl⟩
theorem level_any (i : Nat) (h : i < 8) (n : Int) (h1 : 0 ≤ n) (h2 : n < many (wid i)) (w : World) (hW : Wide w) :
    Calls Tryz.prog 200 #[.int .i64 i, .int .i64 n] w fun e w' => e = .returned (.int .i64 (lvl (wid i) n)) ∧ w' = w := by
  by_cases hn : 2 * n < many (wid i)
  · rw [lvl_low _ _ hn]
    obtain ⟨q, hq⟩ := many_even (wid i) (okW i)
    obtain ⟨m1, m2⟩ := many_bd (wid i) (okW i)
    have C := hide (count_any i h w hW)
    have L := hide (level_up i h ((many (wid i) : Int) - 1 - n) (by omega) (by omega) w hW)
    obtain ⟨u1, u2⟩ := upL_bd (wid i) ((many (wid i) : Int) - 1 - n) (okW i) (by omega) (by omega)
    clear hW
    have hlt : n < (many (wid i) : Int) / 2 := by omega
    clear hq
    generalize upL (many (wid i)) ((many (wid i) : Int) - 1 - n) = U at *
    generalize many (wid i) = M at *
    go_enter Tryz.func200, Tryz.ntmps200
    go_wp2_with fail
    refine C.out.mono ?_
    rintro e w1 ⟨rfl, rfl⟩
    clear C
    go_wp2_with fail
    refine L.out.mono ?_
    rintro e w1 ⟨rfl, rfl⟩
    clear L
    go_wp2_with fail
    go_ret
    exact ⟨rfl, rfl⟩
  · rw [lvl_high _ _ hn]
    exact level_up i h n (by omega) h2 w hW
theorem Level_kind (i n : Int) (h : i < 0 ∨ 7 < i) (w : World) :
    Calls Tryz.prog 137 #[.int .i64 i, .int .i64 n] w fun e w' => e = .returned (.tuple #[.int .i64 0, .int .i64 4]) ∧ w' = w := by
  go_enter Tryz.func137, Tryz.ntmps137
  go_wp2_with fail
  refine (known_no i h _).mono ?_
  rintro e w1 ⟨rfl, rfl⟩
  go_wp2_with fail
  go_ret2
  exact ⟨rfl, rfl⟩
theorem Level_range (i : Nat) (h : i < 8) (n : Int) (hn : n < 0 ∨ (many (wid i) : Int) - 1 < n) (w : World) (hW : Wide w) :
    Calls Tryz.prog 137 #[.int .i64 i, .int .i64 n] w fun e w' => e = .returned (.tuple #[.int .i64 0, .int .i64 2]) ∧ w' = w := by
  have C := hide (count_any i h w hW)
  obtain ⟨m1, m2⟩ := many_bd (wid i) (okW i)
  clear hW
  generalize many (wid i) = M at *
  go_enter Tryz.func137, Tryz.ntmps137
  go_wp2_with fail
  refine (known_yes i h _).mono ?_
  rintro e w1 ⟨rfl, rfl⟩
  go_wp2_with fail
  refine C.out.mono ?_
  rintro e w1 ⟨rfl, rfl⟩
  clear C
  go_wp2_with fail
  refine (qin_no _ _ _ hn _).mono ?_
  rintro e w1 ⟨rfl, rfl⟩
  go_wp2_with fail
  go_ret2
  exact ⟨rfl, rfl⟩
theorem Level_yes (i : Nat) (h : i < 8) (n : Int) (h1 : 0 ≤ n) (h2 : n < many (wid i)) (w : World) (hW : Wide w) :
    Calls Tryz.prog 137 #[.int .i64 i, .int .i64 n] w fun e w' => e = .returned (.tuple #[.int .i64 (lvl (wid i) n), .int .i64 0]) ∧ w' = w := by
  have C := hide (count_any i h w hW)
  have L := hide (level_any i h n h1 h2 w hW)
  obtain ⟨m1, m2⟩ := many_bd (wid i) (okW i)
  clear hW
  generalize lvl (wid i) n = U at *
  generalize many (wid i) = M at *
  go_enter Tryz.func137, Tryz.ntmps137
  go_wp2_with fail
  refine (known_yes i h _).mono ?_
  rintro e w1 ⟨rfl, rfl⟩
  go_wp2_with fail
  refine C.out.mono ?_
  rintro e w1 ⟨rfl, rfl⟩
  clear C
  go_wp2_with fail
  refine (qin_yes _ _ _ h1 (by omega) _).mono ?_
  rintro e w1 ⟨rfl, rfl⟩
  go_wp2_with fail
  refine L.out.mono ?_
  rintro e w1 ⟨rfl, rfl⟩
  go_wp2_with fail
  go_ret2
  exact ⟨rfl, rfl⟩
end Go.Proofs.YtjepkgdejkifcaaGreatDoor

/- RefQuant -/
namespace Go.Proofs.YtjepkgdejkifcaaGreatDoor
open Go.RowKit
set_option linter.unusedVariables false
set_option maxHeartbeats 1000000
def WideR (w : World) (a : Addr) (c : Nat) : Prop := TabS w 0 a c wids 8
theorem WideR_keep {w w' : World} {a : Addr} {c : Nat} (h : WideR w a c) (g : w.grownBy w' none) : WideR w' a c := TabS_keep h g
theorem refWidth_yes (i : Nat) (h : i < 8) (a : Addr) (c : Nat) (w : World) (hW : WideR w a c) :
    Calls Tryz.prog 181 #[.int .i64 i] w fun e w' => e = .returned (.int .i64 (wid i : Int)) ∧ w' = w := by
  obtain ⟨h1, h2, h3⟩ := hW
  have h4 := h3 i h
  rw [wids_at i h] at h4
  clear h3
  generalize wid i = b at *
  go_enter Tryz.func181, Tryz.ntmps181
  go_wp2_with fail
  go_ret
  exact ⟨rfl, rfl⟩
theorem refWidth_no (i : Int) (h : i < 0 ∨ 7 < i) (w : World) :
    Calls Tryz.prog 181 #[.int .i64 i] w fun e w' => e = .returned (.int .i64 0) ∧ w' = w := by
  by_cases h1 : i < 0
  · clear h
    go_enter Tryz.func181, Tryz.ntmps181
    go_wp2_with fail
    go_ret
    exact ⟨rfl, rfl⟩
  · have h2 : 7 < i := by omega
    clear h
    go_enter Tryz.func181, Tryz.ntmps181
    go_wp2_with fail
    go_ret
    exact ⟨rfl, rfl⟩
theorem refLevel_kind (i n : Int) (h : i < 0 ∨ 7 < i) (w : World) :
    Calls Tryz.prog 104 #[.int .i64 i, .int .i64 n] w fun e w' => e = .returned (.tuple #[.int .i64 0, .int .i64 4]) ∧ w' = w := by
  go_enter Tryz.func104, Tryz.ntmps104
  go_wp2_with fail
  refine (refWidth_no i h _).mono ?_
  rintro e w1 ⟨rfl, rfl⟩
  go_wp2_with fail
  go_ret2
  exact ⟨rfl, rfl⟩
theorem many_pow' (b : Nat) : (2 : Int) ^ b = (many b : Int) := by unfold many; simp
theorem okB_bd' (b : Nat) (h : okB b) : 3 ≤ b ∧ b ≤ 6 := by rcases h with e | e | e | e <;> omega
theorem refLevel_range (i : Nat) (h : i < 8) (n : Int) (hn : n < 0 ∨ (many (wid i) : Int) - 1 < n) (a : Addr) (c : Nat) (w : World) (hW : WideR w a c) :
    Calls Tryz.prog 104 #[.int .i64 i, .int .i64 n] w fun e w' => e = .returned (.tuple #[.int .i64 0, .int .i64 2]) ∧ w' = w := by
  have WI := hide (refWidth_yes i h a c w hW)
  obtain ⟨b1, b2⟩ := okB_bd' _ (okW i)
  obtain ⟨m1, m2⟩ := many_bd (wid i) (okW i)
  have hp := many_pow' (wid i)
  clear hW
  generalize many (wid i) = M at *
  generalize wid i = b at *
  by_cases hn1 : n < 0
  · clear hn
    go_enter Tryz.func104, Tryz.ntmps104
    go_wp2_with fail
    refine WI.out.mono ?_
    rintro e w1 ⟨rfl, rfl⟩
    go_wp2_with fail
    refine WI.out.mono ?_
    rintro e w1 ⟨rfl, rfl⟩
    go_wp2_with fail
    go_ret2
    exact ⟨rfl, rfl⟩
  · have hn2 : (M : Int) ≤ n := by omega
    clear hn
    go_enter Tryz.func104, Tryz.ntmps104
    go_wp2_with fail
    refine WI.out.mono ?_
    rintro e w1 ⟨rfl, rfl⟩
    go_wp2_with fail
    refine WI.out.mono ?_
    rintro e w1 ⟨rfl, rfl⟩
    go_wp2_with fail
    go_ret2
    exact ⟨rfl, rfl⟩
theorem refLevel_up (i : Nat) (h : i < 8) (n : Int) (h1 : (many (wid i) : Int) ≤ 2 * n) (h2 : n < many (wid i)) (a : Addr) (c : Nat) (w : World) (hW : WideR w a c) :
    Calls Tryz.prog 104 #[.int .i64 i, .int .i64 n] w fun e w' => e = .returned (.tuple #[.int .i64 (upL (many (wid i)) n), .int .i64 0]) ∧ w' = w := by
  have WI := hide (refWidth_yes i h a c w hW)
  obtain ⟨b1, b2⟩ := okB_bd' _ (okW i)
  obtain ⟨q, hq⟩ := many_even (wid i) (okW i)
  obtain ⟨m1, m2⟩ := many_bd (wid i) (okW i)
  have hs := sq_bdQ (many (wid i)) (2 * ((many (wid i) : Int) - n) - 1) (by omega) (by omega) (by omega) (by omega)
  have hU := hide (show upL (many (wid i)) n = 31000 - 31000 * (2 * ((many (wid i) : Int) - n) - 1) * (2 * ((many (wid i) : Int) - n) - 1) / (many (wid i) * many (wid i)) from rfl)
  have hp := many_pow' (wid i)
  clear hW hq
  generalize upL (many (wid i)) n = U at *
  generalize many (wid i) = M at *
  generalize wid i = b at *
  obtain ⟨s1, s2, s3, s4, s5, s6⟩ := hs
  have hd : (31000 * (2 * ((M : Int) - n) - 1) * (2 * ((M : Int) - n) - 1)).tdiv ((M : Int) * M) = 31000 * (2 * ((M : Int) - n) - 1) * (2 * ((M : Int) - n) - 1) / ((M : Int) * M) := Int.tdiv_eq_ediv_of_nonneg s3
  go_enter Tryz.func104, Tryz.ntmps104
  go_wp2_with fail
  refine WI.out.mono ?_
  rintro e w1 ⟨rfl, rfl⟩
  go_wp2_with fail
  refine WI.out.mono ?_
  rintro e w1 ⟨rfl, rfl⟩
  go_wp2_with fail
  go_ret2
  exact ⟨by rw [hU.out]; rfl, rfl⟩
theorem refLevel_yes (i : Nat) (h : i < 8) (n : Int) (h1 : 0 ≤ n) (h2 : n < many (wid i)) (a : Addr) (c : Nat) (w : World) (hW : WideR w a c) :
    Calls Tryz.prog 104 #[.int .i64 i, .int .i64 n] w fun e w' => e = .returned (.tuple #[.int .i64 (lvl (wid i) n), .int .i64 0]) ∧ w' = w := by
  by_cases hn : 2 * n < many (wid i)
  · rw [lvl_low _ _ hn]
    obtain ⟨q, hq⟩ := many_even (wid i) (okW i)
    obtain ⟨m1, m2⟩ := many_bd (wid i) (okW i)
    obtain ⟨b1, b2⟩ := okB_bd' _ (okW i)
    have WI := hide (refWidth_yes i h a c w hW)
    have L := hide (refLevel_up i h ((many (wid i) : Int) - 1 - n) (by omega) (by omega) a c w hW)
    obtain ⟨u1, u2⟩ := upL_bd (wid i) ((many (wid i) : Int) - 1 - n) (okW i) (by omega) (by omega)
    have hp := many_pow' (wid i)
    clear hW hq
    generalize upL (many (wid i)) ((many (wid i) : Int) - 1 - n) = U at *
    generalize many (wid i) = M at *
    generalize wid i = b at *
    go_enter Tryz.func104, Tryz.ntmps104
    go_wp2_with fail
    refine WI.out.mono ?_
    rintro e w1 ⟨rfl, rfl⟩
    go_wp2_with fail
    refine WI.out.mono ?_
    rintro e w1 ⟨rfl, rfl⟩
    go_wp2_with fail
    refine L.out.mono ?_
    rintro e w1 ⟨rfl, rfl⟩
    clear L
    go_wp2_with fail
    go_ret2
    exact ⟨rfl, rfl⟩
  · rw [lvl_high _ _ hn]
    exact refLevel_up i h n (by omega) h2 a c w hW
end Go.Proofs.YtjepkgdejkifcaaGreatDoor

/- RefOne -/
namespace Go.Proofs.YtjepkgdejkifcaaGreatDoor

end Go.Proofs.YtjepkgdejkifcaaGreatDoor

/- LQuantR -/
namespace Go.Proofs.YtjepkgdejkifcaaGreatDoor
open Go.RowKit
set_option linter.unusedVariables false
set_option maxHeartbeats 1000000
def levV (i n : Int) : Int := if i < 0 ∨ 7 < i then 0 else if n < 0 ∨ (many (wid i.toNat) : Int) - 1 < n then 0 else lvl (wid i.toNat) n
def levX (i n : Int) : Int := if i < 0 ∨ 7 < i then 4 else if n < 0 ∨ (many (wid i.toNat) : Int) - 1 < n then 2 else 0
theorem nat_of (i : Int) (h : ¬(i < 0 ∨ 7 < i)) : ∃ I : Nat, i = (I : Int) ∧ I < 8 ∧ i.toNat = I := ⟨i.toNat, by omega, by omega, rfl⟩
theorem Level_all (i n : Int) (w : World) (hW : Wide w) :
    Calls Tryz.prog 137 #[.int .i64 i, .int .i64 n] w fun e w' => e = .returned (.tuple #[.int .i64 (levV i n), .int .i64 (levX i n)]) ∧ w' = w := by
  by_cases h : i < 0 ∨ 7 < i
  · rw [show levV i n = 0 from if_pos h, show levX i n = 4 from if_pos h]
    exact Level_kind i n h w
  · obtain ⟨I, e, h8, hI⟩ := nat_of i h
    by_cases hn : n < 0 ∨ (many (wid I) : Int) - 1 < n
    · rw [show levV i n = 0 by unfold levV; rw [if_neg h, hI, if_pos hn], show levX i n = 2 by unfold levX; rw [if_neg h, hI, if_pos hn], e]
      exact Level_range I h8 n hn w hW
    · rw [show levV i n = lvl (wid I) n by unfold levV; rw [if_neg h, hI, if_neg hn], show levX i n = 0 by unfold levX; rw [if_neg h, hI, if_neg hn], e]
      exact Level_yes I h8 n (by omega) (by omega) w hW
theorem refLevel_all (i n : Int) (a : Addr) (c : Nat) (w : World) (hW : WideR w a c) :
    Calls Tryz.prog 104 #[.int .i64 i, .int .i64 n] w fun e w' => e = .returned (.tuple #[.int .i64 (levV i n), .int .i64 (levX i n)]) ∧ w' = w := by
  by_cases h : i < 0 ∨ 7 < i
  · rw [show levV i n = 0 from if_pos h, show levX i n = 4 from if_pos h]
    exact refLevel_kind i n h w
  · obtain ⟨I, e, h8, hI⟩ := nat_of i h
    by_cases hn : n < 0 ∨ (many (wid I) : Int) - 1 < n
    · rw [show levV i n = 0 by unfold levV; rw [if_neg h, hI, if_pos hn], show levX i n = 2 by unfold levX; rw [if_neg h, hI, if_pos hn], e]
      exact refLevel_range I h8 n hn a c w hW
    · rw [show levV i n = lvl (wid I) n by unfold levV; rw [if_neg h, hI, if_neg hn], show levX i n = 0 by unfold levX; rw [if_neg h, hI, if_neg hn], e]
      exact refLevel_yes I h8 n (by omega) (by omega) a c w hW
end Go.Proofs.YtjepkgdejkifcaaGreatDoor

/- QuantC -/
namespace Go.Proofs.YtjepkgdejkifcaaGreatDoor
open Go.RowKit
set_option linter.unusedVariables false
set_option linter.unusedSimpArgs false
set_option maxHeartbeats 1000000
def firstE (X : Nat → Int) : Nat → Int
  | 0 => 0
  | m + 1 => if firstE X m = 0 then X m else firstE X m
theorem firstE_go (X : Nat → Int) (m : Nat) (h : firstE X m = 0) : firstE X (m + 1) = X m := if_pos h
theorem firstE_stop (X : Nat → Int) (m : Nat) (h : firstE X m = 0) (hx : X m ≠ 0) : ∀ d, firstE X (m + 1 + d) = X m
  | 0 => firstE_go X m h
  | d + 1 => by
    have := firstE_stop X m h hx d
    show (if firstE X (m + 1 + d) = 0 then X (m + 1 + d) else firstE X (m + 1 + d)) = X m
    rw [this, if_neg hx]
def eachL (V X : Nat → Int) : List Int := if firstE X 8 = 0 then (List.range 8).map V else zeros 8
theorem eachL_len (V X : Nat → Int) : (eachL V X).length = 8 := by unfold eachL; split <;> simp [zeros]
set_option maxRecDepth 100000 in
theorem each_level (l : List Int) (hl : l.length = 8) (w : World) (hW : Wide w) :
    Calls Tryz.prog 136 #[.agg (arrI l), .func (.func 137) #[] #[]] w (ArrE w (eachL (fun i => levV i (nth l i)) (fun i => levX i (nth l i))) (firstE (fun i => levX i (nth l i)) 8)) := by
  have L0 := hide (laid2 w 22 22 l (zeros 8))
  rw [z8'] at L0
  have ON := hide (fun (m : Nat) wr (g : w.grownBy wr none) => Level_all m (nth l m) wr (Wide_keep hW g))
  have IX := hide (fun j hj => index_arr l Tryz.underlying22 j hj hl)
  have hbd := build8
  clear hW
  go_enter Tryz.func136, Tryz.ntmps136
  go_wp2_with (refine wpList_load_arr rfl 22 _ rfl _ rfl _ L0.out.1 _ Tryz.underlying22 rfl (by rw [hl]; exact size8') ?_)
  have M0 := hide (show Mem2 w _ 22 22 l (zeros 8) from L0.out)
  clear L0
  generalize (w.alloc (.cells (arrI l) 22)).alloc _ = W0 at *
  go_loopw [11] (fun i wr => ∃ (m : Nat) (rs : List Int), i = .int .i64 m ∧ m ≤ 8 ∧ Hid (firstE (fun i => levX i (nth l i)) m = 0) ∧ Hid (FillN 8 (fun i => levV i (nth l i)) m rs) ∧ Hid (Mem2 w wr 22 22 rs (zeros 8))) (fun i _ => 8 - (intOf i).toNat)
  case atStart => exact ⟨0, l, rfl, Nat.zero_le _, rfl, ⟨hl, fun j hj => by omega⟩, M0.out⟩
  case round =>
    obtain ⟨m, rs, rfl, hm, h0, hF, hM⟩ := hrel
    clear M0
    by_cases hm8 : m < 8
    · have ix := IX.out m (by omega)
      have O1 := hide (ON.out m wr hM.out.2.2)
      have hlen : rs.length = 8 := hF.out.1
      have NF := hide (fillN_step hF.out hm8)
      have cd := hM.out.1.cell m (by omega)
      have fd := hM.out.1.free m
      have NM := hide (hM.out.set m (levV m (nth l m)))
      have BB := hide hM.out.2.1
      have GM := hide hM.out.2.2
      have ST := hide (fun (hx : levX m (nth l m) ≠ 0) => show firstE (fun i => levX i (nth l i)) 8 = levX m (nth l m) by
        have := firstE_stop (fun i => levX i (nth l i)) m h0.out hx (8 - (m + 1))
        rw [show m + 1 + (8 - (m + 1)) = 8 by omega] at this
        exact this)
      have GO := hide (show firstE (fun i => levX i (nth l i)) (m + 1) = levX m (nth l m) from firstE_go _ m h0.out)
      have EL := hide (fun (hx : firstE (fun i => levX i (nth l i)) 8 ≠ 0) => show eachL (fun i => levV i (nth l i)) (fun i => levX i (nth l i)) = zeros 8 by unfold eachL; rw [if_neg hx])
      clear hF IX ON h0 hM
      generalize levV m (nth l m) = v at *
      generalize levX m (nth l m) = x at *
      generalize nth l m = y at *
      generalize nth rs m = y' at *
      have i1 : (m : Int) < 8 := by omega
      go_wp2_with fail
      refine O1.out.mono ?_
      rintro e w1 ⟨rfl, rfl⟩
      clear O1
      by_cases hx : x = 0
      · subst hx
        clear hbd
        go_wp2_with fail
        go_roundw
        case rel => exact ⟨m + 1, _, by go_num, by omega, GO.out, NF.out, NM.out⟩
        case measure => simp [intOf]; omega
      · clear NM NF GO cd fd
        go_wp2_with (first | refine wpList_store_arr rfl 22 _ _ rfl _ (zeros 8) (zeros 8) rfl rfl BB.out rfl (by rw [zeros_len]; exact size8') ?_)
        have PU := put_arr (rs' := zeros 8) BB.out rfl
        have hlv := loadVar_arr PU.1 _ Tryz.underlying22 rfl (by rw [zeros_len]; exact size8')
        have GF := hide (grown_own GM.out PU.2 (by omega))
        refine bodyPost_ret (v := .tuple #[.agg (arrI (zeros 8)), .int .i64 x]) ?_ rfl ?_
        · simp [results, Tryz.results136, asAddr, Act.put, hlv]
        · rw [EL.out (by rw [ST.out hx]; exact hx), ST.out hx]; exact ⟨rfl, GF.out⟩
    · obtain rfl : m = 8 := by omega
      have hlen : rs.length = 8 := hF.out.1
      have EL := hide (show eachL (fun i => levV i (nth l i)) (fun i => levX i (nth l i)) = rs by rw [fillN_all hF.out]; unfold eachL; rw [if_pos h0.out])
      have EE := h0
      have BA := hide hM.out.1
      have BB := hide hM.out.2.1
      have GM := hide hM.out.2.2
      clear hF hM h0 IX ON hbd
      go_wp2_with (first | refine wpList_load_arr rfl 22 _ rfl _ rfl _ BA.out _ Tryz.underlying22 rfl (by rw [hlen]; exact size8') ?_ | refine wpList_store_arr rfl 22 _ _ rfl _ (zeros 8) rs rfl rfl BB.out (by rw [hlen, zeros_len]) (by rw [zeros_len]; exact size8') ?_)
      have PU := put_arr (rs' := rs) BB.out (by rw [hlen, zeros_len])
      have hlv := loadVar_arr PU.1 _ Tryz.underlying22 rfl (by rw [hlen]; exact size8')
      have GF := hide (grown_own GM.out PU.2 (by omega))
      refine bodyPost_ret (v := .tuple #[.agg (arrI rs), .int .i64 0]) ?_ rfl ?_
      · simp [results, Tryz.results136, asAddr, Act.put, hlv]
      · rw [EL.out, EE.out]; exact ⟨rfl, GF.out⟩
set_option maxRecDepth 100000 in
theorem Values_any (l : List Int) (hl : l.length = 8) (w : World) (hW : Wide w) :
    Calls Tryz.prog 73 #[.agg (arrI l)] w (ArrE w (eachL (fun i => levV i (nth l i)) (fun i => levX i (nth l i))) (firstE (fun i => levX i (nth l i)) 8)) := by
  have L0 := hide (laid2 w 22 22 l (zeros 8))
  have E := hide (fun wr (g : w.grownBy wr none) => each_level l hl wr (Wide_keep hW g))
  have hlen := eachL_len (fun i => levV i (nth l i)) (fun i => levX i (nth l i))
  rw [z8'] at L0
  clear hW
  generalize eachL (fun i => levV i (nth l i)) (fun i => levX i (nth l i)) = rs at *
  generalize firstE (fun i => levX i (nth l i)) 8 = x at *
  go_enter Tryz.func73, Tryz.ntmps73
  go_wp2_with (refine wpList_load_arr rfl 22 _ rfl _ rfl _ L0.out.1 _ Tryz.underlying22 rfl (by rw [hl]; exact size8') ?_)
  refine (E.out _ L0.out.2.2).mono ?_
  rintro e w1 ⟨rfl, g1⟩
  have BB := hide (L0.out.2.1.keep g1)
  have GM := hide (grown_none L0.out.2.2 g1)
  clear L0 g1 E
  go_wp2_with (first | refine wpList_store_arr rfl 22 _ _ rfl _ (zeros 8) rs rfl rfl BB.out (by rw [hlen, zeros_len]) (by rw [zeros_len]; exact size8') ?_)
  have PU := put_arr (rs' := rs) BB.out (by rw [hlen, zeros_len])
  have hlv := loadVar_arr PU.1 _ Tryz.underlying22 rfl (by rw [hlen]; exact size8')
  have GF := hide (grown_own GM.out PU.2 (by omega))
  refine bodyPost_ret (v := .tuple #[.agg (arrI rs), .int .i64 x]) ?_ rfl ⟨rfl, GF.out⟩
  simp [results, Tryz.results73, asAddr, Act.put, hlv]
set_option maxRecDepth 100000 in
theorem refValues_any (l : List Int) (hl : l.length = 8) (a : Addr) (c : Nat) (w : World) (hW : WideR w a c) :
    Calls Tryz.prog 52 #[.agg (arrI l)] w (ArrE w (eachL (fun i => levV i (nth l i)) (fun i => levX i (nth l i))) (firstE (fun i => levX i (nth l i)) 8)) := by
  have L0 := hide (laid3 w 22 22 22 l (zeros 8) (zeros 8))
  rw [z8'] at L0
  have ON := hide (fun (m : Nat) wr (g : w.grownBy wr none) => refLevel_all m (nth l m) a c wr (WideR_keep hW g))
  have hbd := build8
  clear hW
  go_enter Tryz.func52, Tryz.ntmps52
  go_wp2_with fail
  have M0 := hide (show Mem3 w _ 22 22 22 l (zeros 8) (zeros 8) from L0.out)
  clear L0
  generalize ((w.alloc (.cells (arrI l) 22)).alloc _).alloc _ = W0 at *
  go_loopw [8] (fun i wr => ∃ (m : Nat) (rs : List Int), i = .int .i64 m ∧ m ≤ 8 ∧ Hid (firstE (fun i => levX i (nth l i)) m = 0) ∧ Hid (FillN 8 (fun i => levV i (nth l i)) m rs) ∧ Hid (Mem3 w wr 22 22 22 l (zeros 8) rs)) (fun i _ => 8 - (intOf i).toNat)
  case atStart => exact ⟨0, zeros 8, rfl, Nat.zero_le _, rfl, ⟨zeros_len 8, fun j hj => by omega⟩, M0.out⟩
  case round =>
    obtain ⟨m, rs, rfl, hm, h0, hF, hM⟩ := hrel
    clear M0
    by_cases hm8 : m < 8
    · have O1 := hide (ON.out m wr hM.out.2.2.2)
      have hlen : rs.length = 8 := hF.out.1
      have NF := hide (fillN_step hF.out hm8)
      have cl := hM.out.1.cell m (by omega)
      have ST := hide (fun (hx : levX m (nth l m) ≠ 0) => show firstE (fun i => levX i (nth l i)) 8 = levX m (nth l m) by
        have := firstE_stop (fun i => levX i (nth l i)) m h0.out hx (8 - (m + 1))
        rw [show m + 1 + (8 - (m + 1)) = 8 by omega] at this
        exact this)
      have GO := hide (show firstE (fun i => levX i (nth l i)) (m + 1) = levX m (nth l m) from firstE_go _ m h0.out)
      have EL := hide (fun (hx : firstE (fun i => levX i (nth l i)) 8 ≠ 0) => show eachL (fun i => levV i (nth l i)) (fun i => levX i (nth l i)) = zeros 8 by unfold eachL; rw [if_neg hx])
      clear hF ON h0
      generalize levV m (nth l m) = v at *
      generalize levX m (nth l m) = x at *
      generalize nth l m = y at *
      have i1 : (m : Int) < 8 := by omega
      go_wp2_with fail
      refine O1.out.mono ?_
      rintro e w1 ⟨rfl, rfl⟩
      have g1 := grown_refl w1 none
      have M1 := hide (hM.out.keep g1)
      clear O1 hM g1 cl
      have cd := M1.out.2.2.1.cell m (by omega)
      have fd := M1.out.2.2.1.free m
      have NM := hide (M1.out.set3 m v)
      have BB := hide M1.out.2.1
      have GM := hide M1.out.2.2.2
      generalize nth rs m = y' at *
      clear M1
      by_cases hx : x = 0
      · subst hx
        clear hbd
        go_wp2_with fail
        go_roundw
        case rel => exact ⟨m + 1, _, by go_num, by omega, GO.out, NF.out, NM.out⟩
        case measure => simp [intOf]; omega
      · clear NM NF GO cd fd
        go_wp2_with (first | refine wpList_store_arr rfl 22 _ _ rfl _ (zeros 8) (zeros 8) rfl rfl BB.out rfl (by rw [zeros_len]; exact size8') ?_)
        have PU := put_arr (rs' := zeros 8) BB.out rfl
        have hlv := loadVar_arr PU.1 _ Tryz.underlying22 rfl (by rw [zeros_len]; exact size8')
        have GF := hide (grown_own GM.out PU.2 (by omega))
        refine bodyPost_ret (v := .tuple #[.agg (arrI (zeros 8)), .int .i64 x]) ?_ rfl ?_
        · simp [results, Tryz.results52, asAddr, Act.put, hlv]
        · rw [EL.out (by rw [ST.out hx]; exact hx), ST.out hx]; exact ⟨rfl, GF.out⟩
    · obtain rfl : m = 8 := by omega
      have hlen : rs.length = 8 := hF.out.1
      have EL := hide (show eachL (fun i => levV i (nth l i)) (fun i => levX i (nth l i)) = rs by rw [fillN_all hF.out]; unfold eachL; rw [if_pos h0.out])
      have EE := h0
      have BA := hide hM.out.2.2.1
      have BB := hide hM.out.2.1
      have GM := hide hM.out.2.2.2
      clear hF hM h0 ON hbd
      go_wp2_with (first | refine wpList_load_arr rfl 22 _ rfl _ rfl _ BA.out _ Tryz.underlying22 rfl (by rw [hlen]; exact size8') ?_ | refine wpList_store_arr rfl 22 _ _ rfl _ (zeros 8) rs rfl rfl BB.out (by rw [hlen, zeros_len]) (by rw [zeros_len]; exact size8') ?_)
      have PU := put_arr (rs' := rs) BB.out (by rw [hlen, zeros_len])
      have hlv := loadVar_arr PU.1 _ Tryz.underlying22 rfl (by rw [hlen]; exact size8')
      have GF := hide (grown_own GM.out PU.2 (by omega))
      refine bodyPost_ret (v := .tuple #[.agg (arrI rs), .int .i64 0]) ?_ rfl ?_
      · simp [results, Tryz.results52, asAddr, Act.put, hlv]
      · rw [EL.out, EE.out]; exact ⟨rfl, GF.out⟩
end Go.Proofs.YtjepkgdejkifcaaGreatDoor

/- QuaMath -/
namespace Go.Proofs.YtjepkgdejkifcaaGreatDoor
open Go.RowKit
set_option linter.unusedVariables false
set_option linter.unusedSimpArgs false
theorem firstE_zero (X : Nat → Int) : ∀ m, (∀ i, i < m → X i = 0) → firstE X m = 0
  | 0, _ => rfl
  | m + 1, h => by
    have := firstE_zero X m (fun i hi => h i (by omega))
    rw [firstE_go X m this]
    exact h m (by omega)
theorem eachL_zero (V X : Nat → Int) (h : ∀ i, i < 8 → X i = 0) : eachL V X = tab 8 V ∧ firstE X 8 = 0 := by
  have := firstE_zero X 8 h
  exact ⟨if_pos this, this⟩
theorem tab_congr (n : Nat) (f g : Nat → Int) (h : ∀ i, i < n → f i = g i) : tab n f = tab n g :=
  tab_ext (tab_len _ _) (fun i hi => by rw [tab_nth _ _ _ hi]; exact h i hi)
def nowL (q : List Int) : List Int := tab 8 (fun i => lvl (wid i) (nth q i))
def gudQ (q : List Int) : Prop := q.length = 8 ∧ ∀ i, i < 8 → 0 ≤ nth q i ∧ nth q i < (many (wid i) : Int)
theorem eachLev (q : List Int) (hq : gudQ q) : eachL (fun i => levV i (nth q i)) (fun i => levX i (nth q i)) = nowL q ∧ firstE (fun i => levX i (nth q i)) 8 = 0 := by
  have h := eachL_zero (fun i => levV i (nth q i)) (fun i => levX i (nth q i)) (fun i hi => by
    have := hq.2 i hi
    show levX (i : Int) (nth q i) = 0
    unfold levX
    rw [if_neg (by omega), show ((i : Nat) : Int).toNat = i by omega]
    (repeat' split) <;> first | rfl | omega)
  refine ⟨h.1.trans (tab_congr 8 _ _ (fun i hi => ?_)), h.2⟩
  have := hq.2 i hi
  show levV (i : Int) (nth q i) = _
  unfold levV
  rw [if_neg (by omega), show ((i : Nat) : Int).toNat = i by omega]
  (repeat' split) <;> first | rfl | omega
theorem gudQ_of {p : List Int} (h : gudP p = true) : gudQ (prt p 1 8) := by
  refine ⟨prt_len _ _ _, fun i hi => ?_⟩
  rw [prt_nth _ _ _ _ hi]
  have := (gudP_iff p).1 h (1 + i) (by omega)
  rw [mo_many i hi] at this
  omega
theorem nowL_vl (p : List Int) : nowL (prt p 1 8) = vlL p := tab_congr 8 _ _ (fun i hi => by rw [prt_nth _ _ _ _ hi])
theorem vals_eq {p : List Int} (h : gudP p = true) : eachL (fun i => levV i (nth (prt p 1 8) i)) (fun i => levX i (nth (prt p 1 8) i)) = vlL p ∧ firstE (fun i => levX i (nth (prt p 1 8) i)) 8 = 0 := by
  have := eachLev _ (gudQ_of h)
  rw [nowL_vl] at this
  exact this
theorem plP_t (l u : List Int) : plP true l u = siM l := if_pos rfl
theorem plP_f (l u : List Int) : plP false l u = spM l u := if_neg (by decide)
theorem plX_t (l u : List Int) : plX true l u = siL l := if_pos rfl
theorem plX_f (l u : List Int) : plX false l u = spX l u := if_neg (by decide)
end Go.Proofs.YtjepkgdejkifcaaGreatDoor

/- LpcB -/
namespace Go.Proofs.YtjepkgdejkifcaaGreatDoor
open Go.RowKit
set_option linter.unusedVariables false
set_option linter.unusedSimpArgs false
set_option maxHeartbeats 1000000
theorem tdiv4_in (S : Int) (h1 : -262144 ≤ S) (h2 : S ≤ 262144) : -262144 ≤ S.tdiv 4 ∧ S.tdiv 4 ≤ 262144 := by
  rcases Int.le_total 0 S with h | h
  · rw [Int.tdiv_eq_ediv_of_nonneg h]; omega
  · have e : S.tdiv 4 = -((-S).tdiv 4) := by rw [Int.neg_tdiv]; omega
    rw [e, Int.tdiv_eq_ediv_of_nonneg (by omega)]; omega
set_option maxRecDepth 100000 in
theorem mix_no0 (a b : List Int) (num : Int) (hn : ¬ (0 ≤ num ∧ num ≤ 4)) (w : World) : Calls Tryz.prog 138 #[.agg (arrI a), .agg (arrI b), .int .i64 num] w (ArrE w (zeros 8) 2) := by
  have L0 := hide (laid3 w 22 22 22 a b (zeros 8))
  rw [z8'] at L0
  have hbd := build8
  have W := hide (within_any num 0 4)
  rw [show (decide (0 ≤ num) && decide (num ≤ 4)) = false by simp; omega] at W
  go_enter Tryz.func138, Tryz.ntmps138
  go_wp2_with fail
  refine (W.out _).mono ?_
  rintro e w1 ⟨rfl, rfl⟩
  have BB := hide L0.out.2.2.1
  have GM := hide L0.out.2.2.2
  clear L0 W
  go_wp2_with (first | refine wpList_store_arr rfl 22 _ _ rfl _ (zeros 8) (zeros 8) rfl rfl BB.out rfl (by rw [zeros_len]; exact size8') ?_)
  have PU := put_arr (rs' := zeros 8) BB.out rfl
  have hlv := loadVar_arr PU.1 _ Tryz.underlying22 rfl (by rw [zeros_len]; exact size8')
  have GF := hide (grown_own GM.out PU.2 (by omega))
  refine bodyPost_ret (v := .tuple #[.agg (arrI (zeros 8)), .int .i64 2]) ?_ rfl ⟨rfl, GF.out⟩
  simp [results, Tryz.results138, asAddr, Act.put, hlv]
set_option maxRecDepth 100000 in
theorem mix_no1 (a b : List Int) (ha : a.length = 8) (num : Int) (hn : 0 ≤ num ∧ num ≤ 4) (sa : steadyB a = false) (w : World) : Calls Tryz.prog 138 #[.agg (arrI a), .agg (arrI b), .int .i64 num] w (ArrE w (zeros 8) 2) := by
  have L0 := hide (laid3 w 22 22 22 a b (zeros 8))
  rw [z8'] at L0
  have hbd := build8
  have W := hide (within_any num 0 4)
  rw [show (decide (0 ≤ num) && decide (num ≤ 4)) = true by simp; omega] at W
  have SA := hide (reflections_any a ha)
  rw [sa] at SA
  go_enter Tryz.func138, Tryz.ntmps138
  go_wp2_with fail
  refine (W.out _).mono ?_
  rintro e w1 ⟨rfl, rfl⟩
  clear W
  go_wp2_with (first | refine wpList_load_arrG (by first | rfl | (simp [Region.wanted, yielded]; omega)) 22 _ rfl _ rfl _ L0.out.1 _ Tryz.underlying22 rfl (by rw [ha]; exact size8') ?_)
  refine (SA.out _).mono ?_
  rintro e w1 ⟨rfl, g1⟩
  have BB := hide (L0.out.2.2.1.keep g1)
  have GM := hide (grown_none L0.out.2.2.2 g1)
  clear L0 g1 SA
  go_wp2_with (first | refine wpList_store_arr rfl 22 _ _ rfl _ (zeros 8) (zeros 8) rfl rfl BB.out rfl (by rw [zeros_len]; exact size8') ?_)
  have PU := put_arr (rs' := zeros 8) BB.out rfl
  have hlv := loadVar_arr PU.1 _ Tryz.underlying22 rfl (by rw [zeros_len]; exact size8')
  have GF := hide (grown_own GM.out PU.2 (by omega))
  refine bodyPost_ret (v := .tuple #[.agg (arrI (zeros 8)), .int .i64 2]) ?_ rfl ⟨rfl, GF.out⟩
  simp [results, Tryz.results138, asAddr, Act.put, hlv]
set_option maxRecDepth 100000 in
theorem mix_no2 (a b : List Int) (ha : a.length = 8) (hb : b.length = 8) (num : Int) (hn : 0 ≤ num ∧ num ≤ 4) (sa : steadyB a = true) (sb : steadyB b = false) (w : World) : Calls Tryz.prog 138 #[.agg (arrI a), .agg (arrI b), .int .i64 num] w (ArrE w (zeros 8) 2) := by
  have L0 := hide (laid3 w 22 22 22 a b (zeros 8))
  rw [z8'] at L0
  have hbd := build8
  have W := hide (within_any num 0 4)
  rw [show (decide (0 ≤ num) && decide (num ≤ 4)) = true by simp; omega] at W
  have SA := hide (reflections_any a ha)
  have SB := hide (reflections_any b hb)
  rw [sa] at SA
  rw [sb] at SB
  go_enter Tryz.func138, Tryz.ntmps138
  go_wp2_with fail
  refine (W.out _).mono ?_
  rintro e w1 ⟨rfl, rfl⟩
  clear W
  go_wp2_with (first | refine wpList_load_arrG (by first | rfl | (simp [Region.wanted, yielded]; omega)) 22 _ rfl _ rfl _ L0.out.1 _ Tryz.underlying22 rfl (by rw [ha]; exact size8') ?_)
  refine (SA.out _).mono ?_
  rintro e w1 ⟨rfl, g1⟩
  have L1 := hide (L0.out.2.1.keep g1)
  have B1 := hide (L0.out.2.2.1.keep g1)
  have G1 := hide (grown_none L0.out.2.2.2 g1)
  clear L0 g1 SA
  go_wp2_with (first | refine wpList_load_arrG (by first | rfl | (simp [Region.wanted, yielded]; omega)) 22 _ rfl _ rfl _ L1.out _ Tryz.underlying22 rfl (by rw [hb]; exact size8') ?_)
  refine (SB.out _).mono ?_
  rintro e w2 ⟨rfl, g2⟩
  have BB := hide (B1.out.keep g2)
  have GM := hide (grown_none G1.out g2)
  clear L1 B1 G1 g2 SB
  go_wp2_with (first | refine wpList_store_arr rfl 22 _ _ rfl _ (zeros 8) (zeros 8) rfl rfl BB.out rfl (by rw [zeros_len]; exact size8') ?_)
  have PU := put_arr (rs' := zeros 8) BB.out rfl
  have hlv := loadVar_arr PU.1 _ Tryz.underlying22 rfl (by rw [zeros_len]; exact size8')
  have GF := hide (grown_own GM.out PU.2 (by omega))
  refine bodyPost_ret (v := .tuple #[.agg (arrI (zeros 8)), .int .i64 2]) ?_ rfl ⟨rfl, GF.out⟩
  simp [results, Tryz.results138, asAddr, Act.put, hlv]
set_option maxRecDepth 100000 in
theorem mix_yes (a b : List Int) (ha : a.length = 8) (hb : b.length = 8) (num : Int) (n0 : 0 ≤ num) (n4 : num ≤ 4) (sa : steadyB a = true) (sb : steadyB b = true) (w : World) : Calls Tryz.prog 138 #[.agg (arrI a), .agg (arrI b), .int .i64 num] w (ArrE w (mixL a b num) (mixE a b num)) := by
  have L0 := hide (laid3 w 22 22 22 a b (zeros 8))
  rw [z8'] at L0
  have W := hide (within_any num 0 4)
  rw [show (decide (0 ≤ num) && decide (num ≤ 4)) = true by simp; omega] at W
  have SA := hide (reflections_any a ha)
  have SB := hide (reflections_any b hb)
  rw [sa] at SA
  rw [sb] at SB
  have IX := hide (fun j hj => index_arr a Tryz.underlying22 j hj ha)
  go_enter Tryz.func138, Tryz.ntmps138
  go_wp2_with fail
  refine (W.out _).mono ?_
  rintro e w1 ⟨rfl, rfl⟩
  clear W
  go_wp2_with (first | refine wpList_load_arrG (by first | rfl | (simp [Region.wanted, yielded]; omega)) 22 _ rfl _ rfl _ L0.out.1 _ Tryz.underlying22 rfl (by rw [ha]; exact size8') ?_)
  refine (SA.out _).mono ?_
  rintro e w1 ⟨rfl, g1⟩
  have M1 := hide (show Mem3 w w1 22 22 22 a b (zeros 8) from Mem3.keep L0.out g1)
  clear L0 g1 SA
  go_wp2_with (first | refine wpList_load_arrG (by first | rfl | (simp [Region.wanted, yielded]; omega)) 22 _ rfl _ rfl _ M1.out.2.1 _ Tryz.underlying22 rfl (by rw [hb]; exact size8') ?_)
  refine (SB.out _).mono ?_
  rintro e w2 ⟨rfl, g2⟩
  have M2 := hide (M1.out.keep g2)
  clear M1 g2 SB
  go_wp2_with (refine wpList_load_arr rfl 22 _ rfl _ rfl _ M2.out.1 _ Tryz.underlying22 rfl (by rw [ha]; exact size8') ?_)
  have SY := hide ((steadyB_iff a).1 sa)
  have SZ := hide ((steadyB_iff b).1 sb)
  have OK := hide (show okM a b num = true by unfold okM; simp [n0, n4, sa, sb])
  clear sa sb
  go_loopw [25] (fun i wr => ∃ (m : Nat) (rs : List Int), i = .int .i64 m ∧ m ≤ 8 ∧ Hid (FillN 8 (mixN a b num) m rs) ∧ Hid (Mem3 w wr 22 22 22 rs b (zeros 8))) (fun i _ => 8 - (intOf i).toNat)
  case atStart => exact ⟨0, a, rfl, Nat.zero_le _, ⟨ha, fun j hj => by omega⟩, M2.out⟩
  case round =>
    obtain ⟨m, rs, rfl, hm, hF, hM⟩ := hrel
    clear M2
    by_cases hm8 : m < 8
    · have ix := IX.out m (by omega)
      have cb := hM.out.2.1.cell m (by omega)
      obtain ⟨a1, a2⟩ := SY.out m (by omega)
      obtain ⟨b1, b2⟩ := SZ.out m (by omega)
      have hlen : rs.length = 8 := hF.out.1
      have NF := hide (fillN_step hF.out hm8)
      have MX := hide (show mixN a b num m = (nth a m * (4 - num) + nth b m * num).tdiv 4 from rfl)
      have cd := hM.out.1.cell m (by omega)
      have fd := hM.out.1.free m
      have NM := hide (hM.out.set m (mixN a b num m))
      clear hF OK SY SZ hM IX
      generalize mixN a b num m = z at *
      generalize nth a m = x at *
      generalize nth b m = y at *
      generalize nth rs m = y' at *
      have i0 : (0 : Int) ≤ m := by omega
      have i1 : (m : Int) < 8 := by omega
      have e1 : -131072 ≤ x * (4 - num) ∧ x * (4 - num) ≤ 131072 := by
        have h : num = 0 ∨ num = 1 ∨ num = 2 ∨ num = 3 ∨ num = 4 := by omega
        rcases h with rfl | rfl | rfl | rfl | rfl <;> omega
      have e2 : -131072 ≤ y * num ∧ y * num ≤ 131072 := by
        have h : num = 0 ∨ num = 1 ∨ num = 2 ∨ num = 3 ∨ num = 4 := by omega
        rcases h with rfl | rfl | rfl | rfl | rfl <;> omega
      obtain ⟨e11, e12⟩ := e1
      obtain ⟨e21, e22⟩ := e2
      have hq := tdiv4_in (x * (4 - num) + y * num) (by omega) (by omega)
      obtain ⟨q1, q2⟩ := hq
      go_wp2_with fail
      rw [← MX.out]
      go_roundw
      case rel => exact ⟨m + 1, _, by go_num, by omega, NF.out, NM.out⟩
      case measure => simp [intOf]; omega
    · obtain rfl : m = 8 := by omega
      have hlen : rs.length = 8 := hF.out.1
      have EL := hide (show mixL a b num = rs by rw [fillN_all hF.out]; simp [mixL, OK.out])
      have EE := hide (show mixE a b num = 0 by simp [mixE, OK.out])
      have BA := hide hM.out.1
      have BB := hide hM.out.2.2.1
      have GM := hide hM.out.2.2.2
      clear hF hM OK SY SZ IX
      go_wp2_with (first | refine wpList_load_arr rfl 22 _ rfl _ rfl _ BA.out _ Tryz.underlying22 rfl (by rw [hlen]; exact size8') ?_ | refine wpList_store_arr rfl 22 _ _ rfl _ (zeros 8) rs rfl rfl BB.out (by rw [hlen, zeros_len]) (by rw [zeros_len]; exact size8') ?_)
      have PU := put_arr (rs' := rs) BB.out (by rw [hlen, zeros_len])
      have hlv := loadVar_arr PU.1 _ Tryz.underlying22 rfl (by rw [hlen]; exact size8')
      have GF := hide (grown_own GM.out PU.2 (by omega))
      refine bodyPost_ret (v := .tuple #[.agg (arrI rs), .int .i64 0]) ?_ rfl ?_
      · simp [results, Tryz.results138, asAddr, Act.put, hlv]
      · rw [EL.out, EE.out]; exact ⟨rfl, GF.out⟩
theorem mix_any (a b : List Int) (ha : a.length = 8) (hb : b.length = 8) (num : Int) (w : World) : Calls Tryz.prog 138 #[.agg (arrI a), .agg (arrI b), .int .i64 num] w (ArrE w (mixL a b num) (mixE a b num)) := by
  have no : okM a b num = false → mixL a b num = zeros 8 ∧ mixE a b num = 2 := fun h => by simp [mixL, mixE, h]
  by_cases hn : 0 ≤ num ∧ num ≤ 4
  · rcases sa : steadyB a with _ | _
    · obtain ⟨e1, e2⟩ := no (by unfold okM; rw [sa]; simp)
      rw [e1, e2]; exact mix_no1 a b ha num hn sa w
    · rcases sb : steadyB b with _ | _
      · obtain ⟨e1, e2⟩ := no (by unfold okM; rw [sb]; simp)
        rw [e1, e2]; exact mix_no2 a b ha hb num hn sa sb w
      · exact mix_yes a b ha hb num hn.1 hn.2 sa sb w
  · obtain ⟨e1, e2⟩ := no (by
      unfold okM
      have : (decide (0 ≤ num) && decide (num ≤ 4)) = false := by simp; omega
      rw [this]; rfl)
    rw [e1, e2]; exact mix_no0 a b num hn w
end Go.Proofs.YtjepkgdejkifcaaGreatDoor

/- LpcC -/
namespace Go.Proofs.YtjepkgdejkifcaaGreatDoor
open Go.RowKit
set_option linter.unusedVariables false
set_option linter.unusedSimpArgs false
set_option maxHeartbeats 1000000
def PartG (A : List Int) (m : Nat) (q : Int) (k : Nat) (rs : List Int) : Prop := rs.length = 9 ∧ ∀ j, nth rs j = if j < k then gr (nth A) m q j else nth A j
theorem partG_step {A : List Int} {m : Nat} {q : Int} {k : Nat} {rs : List Int} (h : PartG A m q k rs) (h1 : 1 ≤ k) (h2 : k ≤ m) (hm : m ≤ 8) : PartG A m q (k + 1) (rs.set k (nth A k + q * nth A (m - k) / 32768)) := by
  refine ⟨by simpa using h.1, fun j => ?_⟩
  by_cases e : j = k
  · subst e
    have hl := h.1
    rw [if_pos (by omega)]
    unfold gr
    rw [if_pos ⟨h1, h2⟩]
    simp [nth, List.getD, show j < rs.length by omega]
  · have e1 : nth (rs.set k (nth A k + q * nth A (m - k) / 32768)) j = nth rs j := by simp [nth, List.getD, List.getElem?_set, Ne.symm e]
    rw [e1, h.2 j]
    by_cases c : j < k
    · rw [if_pos c, if_pos (by omega)]
    · rw [if_neg c, if_neg (by omega)]
theorem partG_start (A : List Int) (hA : A.length = 9) (m : Nat) (q : Int) : PartG A m q 1 A := ⟨hA, fun j => by
  by_cases c : j < 1
  · rw [if_pos c]; unfold gr; rw [if_neg (by omega)]
  · rw [if_neg c]⟩
theorem partG_end {A : List Int} {m : Nat} {q : Int} {rs : List Int} (h : PartG A m q (m + 1) rs) : rs = tab 9 (gr (nth A) m q) := tab_ext h.1 (fun i _ => by
  rw [h.2 i]
  by_cases c : i < m + 1
  · rw [if_pos c]
  · rw [if_neg c]; unfold gr; rw [if_neg (by omega)])
def MemG (w wr : World) (A rs : List Int) : Prop := Mem3 w wr 88 88 88 A (zeros 9) rs
theorem memG_set {w wr : World} {A rs : List Int} (h : MemG w wr A rs) (k : Nat) (z : Int) : MemG w (wr.setCell ⟨w.heap.size + 1 + 1, k, none⟩ (.int .i64 z)) A (rs.set k z) :=
  ⟨h.1.keepBut (grown_setCell _ ⟨w.heap.size + 1 + 1, k, none⟩ _) (by simp; omega), h.2.1.keepBut (grown_setCell _ ⟨w.heap.size + 1 + 1, k, none⟩ _) (by simp), h.2.2.1.set k z, grown_own h.2.2.2 (grown_setCell _ ⟨w.heap.size + 1 + 1, k, none⟩ _) (by simp; omega)⟩
theorem memG_start (w : World) (A : List Int) (hA : A.length = 9) : MemG w (putArr (((w.alloc (.cells (arrI A) 88)).alloc (.cells (arrI (zeros 9)) 88)).alloc (.cells (arrI (zeros 9)) 88)) (w.heap.size + 1 + 1) A) A A := by
  obtain ⟨h1, h2, h3, h4⟩ := laid3 w 88 88 88 A (zeros 9) (zeros 9)
  have PU := put_arr (rs' := A) h3 (by rw [hA, zeros_len])
  exact ⟨h1.keepBut PU.2 (by omega), h2.keepBut PU.2 (by omega), PU.1, grown_own h4 PU.2 (by omega)⟩
set_option maxRecDepth 100000 in
theorem grown_any (A : List Int) (hA : A.length = 9) (m : Nat) (hm : m ≤ 8) (q : Int) (q1 : -32768 ≤ q) (q2 : q ≤ 32768) (hW : Wi (nth A) 4294967296) (w : World) :
    Calls Tryz.prog 164 #[.agg (arrI A), .int .i64 m, .int .i64 q] w (AnsG w (.agg (arrI (tab 9 (gr (nth A) m q))))) := by
  have L0 := hide (laid3 w 88 88 88 A (zeros 9) (zeros 9))
  rw [z9'] at L0
  have BA := hide (Blk.new w 88 A)
  have BA2 := hide (laid2 w 88 88 A (zeros 9))
  rw [z9'] at BA2
  have B3 := hide L0.out.2.2.1
  have MS := hide (memG_start w A hA)
  rw [z9'] at MS
  have HW := hide hW
  clear L0 hW BA
  go_enter Tryz.func164, Tryz.ntmps164
  go_wp2_with (first | refine wpList_load_arr rfl 88 _ rfl _ rfl _ BA2.out.1 _ Tryz.underlying88 rfl (by rw [hA]; exact size9') ?_ | refine wpList_store_arr rfl 88 _ _ rfl _ (zeros 9) A rfl rfl B3.out (by rw [hA, zeros_len]) (by rw [zeros_len]; exact size9') ?_)
  clear BA2 B3
  generalize putArr _ (w.heap.size + 1 + 1) A = W0 at *
  go_loopw [8] (fun i wr => ∃ (k : Nat) (rs : List Int), i = .int .i64 k ∧ 1 ≤ k ∧ k ≤ m + 1 ∧ Hid (PartG A m q k rs) ∧ Hid (MemG w wr A rs)) (fun i _ => 9 - (intOf i).toNat)
  case atStart => exact ⟨1, A, rfl, by omega, by omega, partG_start A hA m q, MS.out⟩
  case round =>
    obtain ⟨k, rs, rfl, hk1, hk2, hF, hM⟩ := hrel
    clear MS
    by_cases hkm : k ≤ m
    · have hlen : rs.length = 9 := hF.out.1
      have cz := hM.out.2.2.1.cell k (by omega)
      have fz := hM.out.2.2.1.free k
      have cx := hM.out.1.cell (m - k) (by omega)
      have ez : nth rs k = nth A k := by rw [hF.out.2 k, if_neg (by omega)]
      rw [ez] at cz
      have NF := hide (partG_step hF.out hk1 hkm hm)
      have NM := hide (memG_set hM.out k (nth A k + q * nth A (m - k) / 32768))
      obtain ⟨z1, z2⟩ := HW.out k
      obtain ⟨x1, x2⟩ := HW.out (m - k)
      obtain ⟨p1, p2⟩ := qmul_bd q _ _ q1 q2 x1 x2
      have EJ := hide (show IntKind.i64.wrap ((m : Int) - (k : Int)) = ((m - k : Nat) : Int) by rw [wrapI _ (by omega) (by omega)]; omega)
      have j8 : ((m - k : Nat) : Int) < 9 := by omega
      have j0 : (0 : Int) ≤ ((m - k : Nat) : Int) := by omega
      clear hF hM HW ez
      have EM := hide (wrapI (q * nth A (m - k)) (by omega) (by omega))
      have EZ := hide (wrapI (nth A k + q * nth A (m - k) / 32768) (by omega) (by omega))
      generalize hx : nth A (m - k) = x at *
      generalize hz : nth A k = z at *
      clear hx hz
      generalize m - k = j at *
      have k9 : (k : Int) < 9 := by omega
      have k0 : (0 : Int) ≤ k := by omega
      have km : (k : Int) ≤ m := by omega
      have hS := And.intro cz cx
      go_wp2_with fail
      refine wp_region_G 13 ((fun w' => w'.cell? ⟨w.heap.size + 1 + 1, k, none⟩ = some (.int .i64 z) ∧ w'.cell? ⟨w.heap.size, j, none⟩ = some (.int .i64 x))) 14 (by rfl) #[false, false, false, false, false, false, false, false, false, false, false, false, false, false] (by rfl) (by kernel_rfl) (fun hcl => ?_)
      refine wpAnyG_take (i := 0) (v := ?v0) rfl (by kernel_rfl) hcl (fun _ _ _ h => h) (Or.inl ⟨by rfl, ?y0⟩) hS (fun hcl => ?r0)
      case y0 => (intro w' hSw; obtain ⟨s1, s2⟩ := hSw; go_simp; try with_reducible rfl)
      (try simp only [Act.put, sL])
      refine wpAnyG_take (i := 1) (v := ?v1) rfl (by kernel_rfl) hcl (fun _ _ _ h => h) (Or.inl ⟨by rfl, ?y1⟩) hS (fun hcl => ?r1)
      case y1 => (intro w' hSw; obtain ⟨s1, s2⟩ := hSw; go_simp; try with_reducible rfl)
      (try simp only [Act.put, sL])
      refine wpAnyG_take (i := 2) (v := ?v2) rfl (by kernel_rfl) hcl (fun _ _ _ h => h) (Or.inl ⟨by rfl, ?y2⟩) hS (fun hcl => ?r2)
      case y2 => (intro w' hSw; obtain ⟨s1, s2⟩ := hSw; go_simp; try with_reducible rfl)
      (try simp only [Act.put, sL])
      refine wpAnyG_take (i := 3) (v := ?v3) rfl (by kernel_rfl) hcl (fun _ _ _ h => h) (Or.inl ⟨by rfl, ?y3⟩) hS (fun hcl => ?r3)
      case y3 => (intro w' hSw; obtain ⟨s1, s2⟩ := hSw; go_simp; try with_reducible rfl)
      (try simp only [Act.put, sL])
      refine wpAnyG_take (i := 4) (v := ?v4) rfl (by kernel_rfl) hcl (fun _ _ _ h => h) (Or.inl ⟨by rfl, ?y4⟩) hS (fun hcl => ?r4)
      case y4 => (intro w' hSw; obtain ⟨s1, s2⟩ := hSw; go_simp; try with_reducible rfl)
      (try simp only [Act.put, sL])
      refine wpAnyG_take (i := 5) (v := ?v5) rfl (by kernel_rfl) hcl (fun _ _ _ h => h) (Or.inl ⟨by rfl, ?y5⟩) hS (fun hcl => ?r5)
      case y5 => (intro w' hSw; obtain ⟨s1, s2⟩ := hSw; go_simp; try with_reducible rfl)
      (try simp only [Act.put, sL])
      refine wpAnyG_take (i := 6) (v := .int .i64 (j : Int)) rfl (by kernel_rfl) hcl (fun _ _ _ h => h) (Or.inl ⟨by rfl, ?y6⟩) hS (fun hcl => ?r6)
      case y6 => (intro w' hSw; obtain ⟨s1, s2⟩ := hSw; go_simp; (first | exact EJ.out | rw [EJ.out] | (simp; omega)))
      (try simp only [Act.put, sL])
      refine wpAnyG_take (i := 7) (v := ?v7) rfl (by kernel_rfl) hcl (fun _ _ _ h => h) (Or.inl ⟨by rfl, ?y7⟩) hS (fun hcl => ?r7)
      case y7 => (intro w' hSw; obtain ⟨s1, s2⟩ := hSw; go_simp; try with_reducible rfl)
      (try simp only [Act.put, sL])
      refine wpAnyG_take (i := 8) (v := ?v8) rfl (by kernel_rfl) hcl (fun _ _ _ h => h) (Or.inl ⟨by rfl, ?y8⟩) hS (fun hcl => ?r8)
      case y8 => (intro w' hSw; obtain ⟨s1, s2⟩ := hSw; go_simp; try with_reducible rfl)
      (try simp only [Act.put, sL])
      refine wpAnyG_take (i := 9) (v := .int .i64 (q * x)) rfl (by kernel_rfl) hcl (fun _ _ _ h => h) (Or.inl ⟨by rfl, ?y9⟩) hS (fun hcl => ?r9)
      case y9 => (intro w' hSw; obtain ⟨s1, s2⟩ := hSw; go_simp; (first | exact EM.out | rw [EM.out] | (simp; omega)))
      (try simp only [Act.put, sL])
      refine wpAnyG_take (i := 10) (v := ?v10) rfl (by kernel_rfl) hcl (fun _ _ _ h => h) (Or.inl ⟨by rfl, ?y10⟩) hS (fun hcl => ?r10)
      case y10 => (intro w' hSw; obtain ⟨s1, s2⟩ := hSw; go_simp; try with_reducible rfl)
      (try simp only [Act.put, sL])
      refine wpAnyG_take (i := 11) (v := ?v11) rfl (by kernel_rfl) hcl (fun _ _ _ h => h) (Or.inl ⟨by rfl, ?y11⟩) hS (fun hcl => ?r11)
      case y11 => (intro w' hSw; obtain ⟨s1, s2⟩ := hSw; go_simp; try with_reducible rfl)
      (try simp only [Act.put, sL])
      refine wpAnyG_take (i := 12) (v := ?v12) rfl (by kernel_rfl) hcl (fun _ _ _ h => h) (Or.inl ⟨by rfl, ?y12⟩) hS (fun hcl => ?r12)
      case y12 => (intro w' hSw; obtain ⟨s1, s2⟩ := hSw; go_simp; try with_reducible rfl)
      (try simp only [Act.put, sL])
      refine wpAnyG_exec (i := 13) rfl (by kernel_rfl) hcl (fun K hK => ?_)
      (try simp only [Act.put, sL])
      go_simp
      go_wp2_with fail
      refine hK.out _ _ (fun h => by cases h) (fun hcl => ?_)
      clear hK
      (try simp only [Act.put, sL])
      refine wpAnyG_of_any _ _ _ _ (by rfl) ?_
      refine wpAny_done (by kernel_rfl) ?_ _
      go_wp2_with fail
      go_roundw
      case rel => exact ⟨k + 1, _, by go_num, by omega, by omega, NF.out, Mem3.keep NM.out (grown_drew (grown_refl _ none))⟩
      case measure => simp [intOf]; omega
    · obtain rfl : k = m + 1 := by omega
      have hlen : rs.length = 9 := hF.out.1
      have ER := hide (partG_end hF.out)
      have BA := hide hM.out.2.2.1
      have BB := hide hM.out.2.1
      have GM := hide hM.out.2.2.2
      clear hF hM HW
      have km : ¬ ((m + 1 : Nat) : Int) ≤ m := by omega
      go_wp2_with (first | refine wpList_load_arr rfl 88 _ rfl _ rfl _ BA.out _ Tryz.underlying88 rfl (by rw [hlen]; exact size9') ?_ | refine wpList_store_arr rfl 88 _ _ rfl _ (zeros 9) rs rfl rfl BB.out (by rw [hlen, zeros_len]) (by rw [zeros_len]; exact size9') ?_)
      have PU := put_arr (rs' := rs) BB.out (by rw [hlen, zeros_len])
      have hlv := loadVar_arr PU.1 _ Tryz.underlying88 rfl (by rw [hlen]; exact size9')
      have GF := hide (grown_own GM.out PU.2 (by omega))
      refine bodyPost_ret (v := .agg (arrI rs)) ?_ rfl ?_
      · simp [results, Tryz.results164, asAddr, Act.put, hlv]
      · rw [← ER.out]; exact ⟨rfl, GF.out⟩
end Go.Proofs.YtjepkgdejkifcaaGreatDoor

/- LpcD -/
namespace Go.Proofs.YtjepkgdejkifcaaGreatDoor
open Go.RowKit
set_option linter.unusedVariables false
set_option linter.unusedSimpArgs false
set_option maxHeartbeats 1000000
theorem tab_gr (p : Nat → Int) (m : Nat) (hm : m ≤ 8) (q : Int) : tab 9 (gr (nth (tab 9 p)) m q) = tab 9 (gr p m q) := by
  apply tab_ext (tab_len _ _)
  intro i hi
  rw [tab_nth _ _ _ hi]
  unfold gr
  rw [tab_nth _ _ _ hi, tab_nth _ _ _ (show m - i < 9 by omega)]
theorem tab_wi {p : Nat → Int} {B : Int} (h : Wi p B) (hB : 0 ≤ B) (n : Nat) : Wi (nth (tab n p)) B := fun i => by
  by_cases hi : i < n
  · rw [tab_nth _ _ _ hi]; exact h i
  · rw [getD_out _ i (by rw [tab_len]; omega)]; omega
def one9 : List Int := [16777216, 0, 0, 0, 0, 0, 0, 0, 0]
theorem one9_tab : one9 = tab 9 one24 := by decide
theorem one9_arr : arrI one9 = #[.int .i64 16777216, .int .i64 0, .int .i64 0, .int .i64 0, .int .i64 0, .int .i64 0, .int .i64 0, .int .i64 0, .int .i64 0] := rfl
def MemD (w wr : World) (k : List Int) (ba : Nat) (A : List Int) : Prop :=
  Blk wr w.heap.size 22 k ∧ Blk wr (w.heap.size + 1) 88 (zeros 9) ∧ Blk wr ba 88 A ∧ w.heap.size + 1 < ba ∧ w.grownBy wr none
theorem memD_keep {w wr wr' : World} {k : List Int} {ba : Nat} {A : List Int} (h : MemD w wr k ba A) (g : wr.grownBy wr' none) : MemD w wr' k ba A :=
  ⟨h.1.keep g, h.2.1.keep g, h.2.2.1.keep g, h.2.2.2.1, grown_none h.2.2.2.2 g⟩
theorem memD_put {w wr : World} {k : List Int} {ba : Nat} {A : List Int} (h : MemD w wr k ba A) (A' : List Int) (hl : A'.length = A.length) : MemD w (putArr wr ba A') k ba A' := by
  have PU := put_arr (rs' := A') h.2.2.1 hl
  have hb := h.2.2.2.1
  exact ⟨h.1.keepBut PU.2 (by omega), h.2.1.keepBut PU.2 (by omega), PU.1, hb, grown_own h.2.2.2.2 PU.2 (by omega)⟩
theorem memD_set {w wr : World} {k : List Int} {ba : Nat} {A : List Int} (h : MemD w wr k ba A) (i : Nat) (z : Int) : MemD w (wr.setCell ⟨ba, i, none⟩ (.int .i64 z)) k ba (A.set i z) := by
  have g := grown_setCell wr ⟨ba, i, none⟩ (.int .i64 z)
  have hb := h.2.2.2.1
  exact ⟨h.1.keepBut g (by simp; omega), h.2.1.keepBut g (by simp; omega), h.2.2.1.set i z, hb, grown_own h.2.2.2.2 g (by simp; omega)⟩
theorem memD_start {w w1 : World} {k : List Int} (h : Mem2 w w1 22 88 k (zeros 9)) (L : List Int) (hL : L.length = 9) : MemD w (putArr (w1.alloc (.cells (arrI (zeros 9)) 88)) w1.heap.size L) k w1.heap.size L := by
  obtain ⟨f1, f2, f3⟩ := fresh_arr w1 88 9 L hL
  exact ⟨h.1.keep f3, h.2.1.keep f3, f2, h.2.1.lt, grown_none h.2.2 f3⟩
set_option maxRecDepth 100000 in
theorem direct_no (k : List Int) (hk : k.length = 8) (sk : steadyB k = false) (w : World) : Calls Tryz.prog 131 #[.agg (arrI k)] w (ArrE w (zeros 9) 2) := by
  have L0 := hide (laid2 w 22 88 k (zeros 9))
  rw [z9'] at L0
  have hbd := build9
  have SA := hide (reflections_any k hk)
  rw [sk] at SA
  go_enter Tryz.func131, Tryz.ntmps131
  go_wp2_with (refine wpList_load_arr rfl 22 _ rfl _ rfl _ L0.out.1 _ Tryz.underlying22 rfl (by rw [hk]; exact size8') ?_)
  refine (SA.out _).mono ?_
  rintro e w1 ⟨rfl, g1⟩
  have BB := hide (L0.out.2.1.keep g1)
  have GM := hide (grown_none L0.out.2.2 g1)
  clear L0 g1 SA
  go_wp2_with (first | refine wpList_store_arr rfl 88 _ _ rfl _ (zeros 9) (zeros 9) rfl rfl BB.out rfl (by rw [zeros_len]; exact size9') ?_)
  have PU := put_arr (rs' := zeros 9) BB.out rfl
  have hlv := loadVar_arr PU.1 _ Tryz.underlying88 rfl (by rw [zeros_len]; exact size9')
  have GF := hide (grown_own GM.out PU.2 (by omega))
  refine bodyPost_ret (v := .tuple #[.agg (arrI (zeros 9)), .int .i64 2]) ?_ rfl ⟨rfl, GF.out⟩
  simp [results, Tryz.results131, asAddr, Act.put, hlv]
set_option maxRecDepth 100000 in
theorem direct_yes (k : List Int) (hk : k.length = 8) (sk : steadyB k = true) (w : World) : Calls Tryz.prog 131 #[.agg (arrI k)] w (ArrE w (dirL k) (dirE k)) := by
  have L0 := hide (laid2 w 22 88 k (zeros 9))
  rw [z9'] at L0
  have SA := hide (reflections_any k hk)
  rw [sk] at SA
  have SK := hide (steady_le hk sk)
  have EL := hide (show dirL k = tab 9 (dirN (nth k)) by simp [dirL, sk])
  have EE := hide (show dirE k = 0 by simp [dirE, sk])
  have IX := hide (fun j hj => index_arr k Tryz.underlying22 j hj hk)
  clear sk
  go_enter Tryz.func131, Tryz.ntmps131
  go_wp2_with (refine wpList_load_arr rfl 22 _ rfl _ rfl _ L0.out.1 _ Tryz.underlying22 rfl (by rw [hk]; exact size8') ?_)
  refine (SA.out _).mono ?_
  rintro e w1 ⟨rfl, g1⟩
  have M1 := hide (show Mem2 w w1 22 88 k (zeros 9) from Mem2.keep L0.out g1)
  have BN := hide (Blk.new w1 88 (zeros 9))
  rw [z9'] at BN
  obtain ⟨L, hL⟩ : ∃ L, L = one9 := ⟨_, rfl⟩
  have hl : L.length = 9 := by subst hL; rfl
  have OA := hide (show arrI L = _ by subst hL; exact one9_arr)
  have MS := hide (memD_start M1.out L hl)
  rw [z9'] at MS
  have HL := hide hL
  clear L0 g1 SA M1 hL
  go_wp2_with (first | (refine wpList_store_arr rfl 88 _ _ rfl _ (zeros 9) L rfl (by rw [OA.out]; rfl) BN.out (by rw [hl, zeros_len]) (by rw [zeros_len]; exact size9') ?_; generalize putArr _ w1.heap.size L = W0 at *) | refine wpList_load_arr rfl 22 _ rfl _ rfl _ MS.out.1 _ Tryz.underlying22 rfl (by rw [hk]; exact size8') ?_)
  rw [HL.out, one9_tab] at MS
  clear BN OA HL
  generalize w1.heap.size = ba at *
  go_loopw [15] (fun i wr => ∃ m : Nat, i = .int .i64 m ∧ m ≤ 8 ∧ Hid (MemD w wr k ba (tab 9 (prd (nth k) m)))) (fun i _ => 8 - (intOf i).toNat)
  case atStart => exact ⟨0, rfl, Nat.zero_le _, MS.out⟩
  case round =>
    obtain ⟨m, rfl, hm, hM⟩ := hrel
    clear MS
    by_cases hm8 : m < 8
    · have ix := IX.out m (by omega)
      obtain ⟨q1, q2⟩ := SK.out m hm8
      have hlen := tab_len 9 (prd (nth k) m)
      have GR := hide (grown_any (tab 9 (prd (nth k) m)) hlen (m + 1) (by omega) (nth k m) q1 q2 (tab_wi ((prd_bd32 (nth k) SK.out m (by omega)).le (by decide)) (by decide) 9))
      rw [tab_gr _ _ (by omega)] at GR
      have EP := hide (show tab 9 (gr (prd (nth k) m) (m + 1) (nth k m)) = tab 9 (prd (nth k) (m + 1)) from rfl)
      rw [EP.out] at GR
      have hlen2 := tab_len 9 (prd (nth k) (m + 1))
      have BA := hide hM.out.2.2.1
      clear EP IX EL EE SK
      obtain ⟨A', hA'⟩ : ∃ A', A' = tab 9 (prd (nth k) (m + 1)) := ⟨_, rfl⟩
      rw [← hA'] at GR hlen2
      have HA := hide hA'
      clear hA'
      generalize tab 9 (prd (nth k) m) = A at *
      generalize hq : nth k m = q at *
      clear hq
      rw [show ((m + 1 : Nat) : Int) = (m : Int) + 1 from rfl] at GR
      go_wp2_with (refine wpList_load_arr rfl 88 _ rfl _ rfl _ BA.out _ Tryz.underlying88 rfl (by rw [hlen]; exact size9') ?_)
      refine (GR.out _).mono ?_
      rintro e w2 ⟨rfl, g2⟩
      have M2 := hide (memD_keep hM.out g2)
      have B2 := hide M2.out.2.2.1
      clear hM g2 BA GR
      go_wp2_with (refine wpList_store_arr rfl 88 _ _ rfl _ A A' rfl rfl B2.out (by rw [hlen, hlen2]) (by rw [hlen]; exact size9') ?_)
      have M3 := hide (memD_put M2.out A' (by rw [hlen, hlen2]))
      go_roundw
      case rel => exact ⟨m + 1, by go_num, by omega, by rw [← HA.out]; exact M3.out⟩
      case measure => simp [intOf]; omega
    · obtain rfl : m = 8 := by omega
      have hlen := tab_len 9 (prd (nth k) 8)
      have NA := hide (fun i hi => tab_nth 9 (prd (nth k) 8) i hi)
      have PB := hide (prd_bd32 (nth k) SK.out 8 (by omega))
      have DN := hide (show ∀ i, dirN (nth k) i = (prd (nth k) 8 i + 2048) / 4096 from fun i => rfl)
      have BA := hide hM.out.2.2.1
      generalize dirN (nth k) = dn at *
      generalize prd (nth k) 8 = pk at *
      generalize hA : tab 9 pk = A at *
      clear hA IX SK
      have IX := hide (fun j hj => index_arr A Tryz.underlying88 j hj hlen)
      go_wp2_with (refine wpList_load_arr rfl 88 _ rfl _ rfl _ BA.out _ Tryz.underlying88 rfl (by rw [hlen]; exact size9') ?_)
      clear BA
      go_loopw [26] (fun i wr => ∃ (m : Nat) (rs : List Int), i = .int .i64 m ∧ m ≤ 9 ∧ Hid (FillN 9 dn m rs) ∧ Hid (MemD w wr k ba rs)) (fun i _ => 9 - (intOf i).toNat)
      case atStart => exact ⟨0, A, rfl, Nat.zero_le _, ⟨hlen, fun j hj => by omega⟩, hM.out⟩
      case round =>
        obtain ⟨m, rs, rfl, hm', hF, hM'⟩ := hrel
        clear hM
        by_cases hm9 : m < 9
        · have ix := IX.out m (by omega)
          rw [NA.out m hm9] at ix
          obtain ⟨b1, b2⟩ := PB.out m
          have R := hide (rounded12 (pk m) (by omega) (by omega))
          rw [← DN.out m] at R
          have hlr : rs.length = 9 := hF.out.1
          have NF := hide (fillN_step hF.out hm9)
          have NM := hide (memD_set hM'.out m (dn m))
          have cd := hM'.out.2.2.1.cell m (by omega)
          have fd := hM'.out.2.2.1.free m
          clear hF hM' IX NA PB DN EL EE
          generalize dn m = z at *
          generalize pk m = x at *
          generalize nth rs m = y' at *
          have i1 : (m : Int) < 9 := by omega
          go_wp2_with fail
          refine (R.out _).mono ?_
          rintro e w3 ⟨rfl, rfl⟩
          clear R
          go_wp2_with fail
          go_roundw
          case rel => exact ⟨m + 1, _, by go_num, by omega, NF.out, NM.out⟩
          case measure => simp [intOf]; omega
        · obtain rfl : m = 9 := by omega
          have hlr : rs.length = 9 := hF.out.1
          have ER := hide (show rs = tab 9 dn from fillN_all hF.out)
          have BA := hide hM'.out.2.2.1
          have BB := hide hM'.out.2.1
          have GM := hide hM'.out.2.2.2.2
          clear hF hM' IX NA PB DN
          go_wp2_with (first | refine wpList_load_arr rfl 88 _ rfl _ rfl _ BA.out _ Tryz.underlying88 rfl (by rw [hlr]; exact size9') ?_ | refine wpList_store_arr rfl 88 _ _ rfl _ (zeros 9) rs rfl rfl BB.out (by rw [hlr, zeros_len]) (by rw [zeros_len]; exact size9') ?_)
          have PU := put_arr (rs' := rs) BB.out (by rw [hlr, zeros_len])
          have hlv := loadVar_arr PU.1 _ Tryz.underlying88 rfl (by rw [hlr]; exact size9')
          have GF := hide (grown_own GM.out PU.2 (by omega))
          refine bodyPost_ret (v := .tuple #[.agg (arrI rs), .int .i64 0]) ?_ rfl ?_
          · simp [results, Tryz.results131, asAddr, Act.put, hlv]
          · rw [EL.out, EE.out, ← ER.out]; exact ⟨rfl, GF.out⟩
theorem direct_any (k : List Int) (hk : k.length = 8) (w : World) : Calls Tryz.prog 131 #[.agg (arrI k)] w (ArrE w (dirL k) (dirE k)) := by
  rcases sk : steadyB k with _ | _
  · rw [show dirL k = zeros 9 by simp [dirL, sk], show dirE k = 2 by simp [dirE, sk]]
    exact direct_no k hk sk w
  · exact direct_yes k hk sk w
end Go.Proofs.YtjepkgdejkifcaaGreatDoor

/- PitA -/
namespace Go.Proofs.YtjepkgdejkifcaaGreatDoor
open Go.RowKit
set_option linter.unusedVariables false
set_option linter.unusedSimpArgs false
set_option maxHeartbeats 1000000
theorem pitWithin_any (x a b : Int) (w : World) : Calls Tryz.prog 201 #[.int .i64 x, .int .i64 a, .int .i64 b] w (Ans w (.bool (decide (a ≤ x ∧ x ≤ b)))) := by
  by_cases h1 : a ≤ x
  · by_cases h2 : x ≤ b
    · rw [decide_eq_true (show a ≤ x ∧ x ≤ b from ⟨h1, h2⟩)]
      go_enter Tryz.func201, Tryz.ntmps201
      go_wp2_with fail
      go_ret
      exact ⟨rfl, rfl⟩
    · rw [decide_eq_false (show ¬ (a ≤ x ∧ x ≤ b) from fun h => h2 h.2)]
      go_enter Tryz.func201, Tryz.ntmps201
      go_wp2_with fail
      go_ret
      exact ⟨rfl, rfl⟩
  · rw [decide_eq_false (show ¬ (a ≤ x ∧ x ≤ b) from fun h => h1 h.1)]
    go_enter Tryz.func201, Tryz.ntmps201
    go_wp2_with fail
    go_ret
    exact ⟨rfl, rfl⟩
theorem ownP_any {w : World} {b base : Nat} {rs : List Int} (h : Blk w b 3 rs) (hb : base ≤ b) (hl : rs.length ≤ 35184372088832) : Own base w (.slice (some ⟨b, 0, none⟩) rs.length rs.length) rs :=
  ⟨by simp, .inr ⟨b, rs.length, arrI rs, rfl, hb, h, Nat.le_refl _, by unfold maxLen; omega, by simp [arrI], by simp [arrI, List.take_of_length_le]⟩⟩
theorem slice80 (b J : Nat) (hJ : J ≤ 79) (u : World) : Sem.run Tryz.prog (Instr.sliceAt 23 (.pointer (some ⟨b, 0, none⟩)) (some (.int .i64 (J : Int))) none none) u = .ok (.slice (some ⟨b, J, none⟩) (80 - J) (80 - J)) u := by
  have e : Tryz.prog.arrayLen 23 = 80 := by kernel_rfl
  obtain ⟨i0, hi, hz0, hz1, hz2⟩ := info_parts infoI64
  rw [run_sliceAt_array_l (P := Tryz.prog) u 23 _ (by kernel_rfl) .i64 J (by omega) (by omega), e]
  simp [go_sem, slicedAt]
  omega
theorem Mem2.set2 {w wr : World} {T1 T2 : TypeId} {a b : List Int} (h : Mem2 w wr T1 T2 a b) (k : Nat) (z : Int) : Mem2 w (wr.setCell ⟨w.heap.size + 1, k, none⟩ (.int .i64 z)) T1 T2 a (b.set k z) :=
  ⟨h.1.keepBut (grown_setCell wr ⟨w.heap.size + 1, k, none⟩ (.int .i64 z)) (by simp), h.2.1.set k z, grown_own h.2.2 (grown_setCell wr ⟨w.heap.size + 1, k, none⟩ (.int .i64 z)) (by simp)⟩
theorem tmod_nat (m L : Nat) : (m : Int).tmod (L : Int) = ((m % L : Nat) : Int) := by
  rw [Int.tmod_eq_emod_of_nonneg (by omega)]; exact (Int.natCast_emod m L).symm
set_option maxRecDepth 100000 in
theorem pitPast_any (h : List Int) (hh : h.length = 80) (lag : Int) (w : World) :
    Calls Tryz.prog 172 #[.agg (arrI h), .int .i64 lag] w (ListE w (pasL h lag) (pasE lag)) := by
  have WI := hide (fun w' => pitWithin_any lag 20 79 w')
  have G0 := hide (grown_alloc w (.cells (arrI h) 23) none)
  by_cases hlag : 20 ≤ lag ∧ lag ≤ 79
  · rw [decide_eq_true hlag] at WI
    obtain ⟨L, rfl⟩ : ∃ L : Nat, lag = (L : Int) := ⟨lag.toNat, by omega⟩
    obtain ⟨e1, e2⟩ := pasL_yes h L (by omega) (by omega)
    rw [e1, e2]
    obtain ⟨l1, l2⟩ := hlag
    have M0 := hide (show Mem2 w ((w.alloc (.cells (arrI h) 23)).alloc (.cells (arrI (zeros 40)) 3)) 23 3 h (zeros 40) from laid2 w 23 3 h (zeros 40))
    have hsl := slice80 w.heap.size (80 - L) (by omega)
    have hJ : (80 : Int) - (L : Int) = ((80 - L : Nat) : Int) := by omega
    have hJ2 : 80 - (80 - L) = L := by omega
    rw [hJ2] at hsl
    have hmk := make_zeros 40 (by omega)
    rw [show ((40 : Nat) : Int) = 40 from rfl] at hmk
    have BJ := hide (show ∀ i, 80 - L + i = (80 - L) + i from fun _ => rfl)
    clear e1 e2 G0
    generalize hj : 80 - L = J at *
    have HJ := hide hj
    have jb : J + L = 80 := by omega
    clear hj hJ2
    go_enter Tryz.func172, Tryz.ntmps172
    go_wp2_with fail
    refine (WI.out _).mono ?_
    rintro e w1 ⟨rfl, rfl⟩
    clear WI
    go_wp2_with fail
    clear hmk hsl
    generalize (w.alloc (.cells (arrI h) 23)).alloc _ = W0 at *
    go_loopw [18] (fun i wr => ∃ (m : Nat) (rs : List Int), i = .int .i64 m ∧ m ≤ 40 ∧ Hid (FillN 40 (pasN h L) m rs) ∧ Hid (Mem2 w wr 23 3 h rs)) (fun i _ => 40 - (intOf i).toNat)
    case atStart => exact ⟨0, zeros 40, rfl, Nat.zero_le _, fillN_start 40 _, M0.out⟩
    case round =>
      obtain ⟨m, rs, rfl, hm, hF, hM⟩ := hrel
      clear M0
      by_cases hm40 : m < 40
      · have hlen : rs.length = 40 := hF.out.1
        have hq : m % L < L := Nat.mod_lt m (by omega)
        have cx := hM.out.1.cell (J + m % L) (by omega)
        rw [show nth h (J + m % L) = pasN h L m by unfold pasN; rw [HJ.out]] at cx
        have cd := hM.out.2.1.cell m (by omega)
        have fd := hM.out.2.1.free m
        have NF := hide (fillN_step hF.out hm40)
        have NM := hide (hM.out.set2 m (pasN h L m))
        have tm := tmod_nat m L
        have i1 : (m : Int) < 40 := by omega
        have i2 : ¬ (L : Int) = 0 := by omega
        have i3 : ((m % L : Nat) : Int) < L := by omega
        clear hF hM hlen HJ BJ
        generalize pasN h L m = z at *
        generalize nth rs m = q at *
        generalize m % L = M at *
        go_wp2_with fail
        go_roundw
        case rel => exact ⟨m + 1, _, by go_num, by omega, NF.out, NM.out⟩
        case measure => simp [intOf]; omega
      · obtain rfl : m = 40 := by omega
        have EL := hide (show rs = pasV h L from fillN_all hF.out)
        have hlen : rs.length = 40 := hF.out.1
        have OF := ownP_any (base := w.heap.size) hM.out.2.1 (by omega) (by omega)
        rw [hlen] at OF
        have GF := hide hM.out.2.2
        have OO := hide OF
        clear hF hM OF HJ BJ
        go_wp2_with fail
        go_ret2
        rw [EL.out] at OO
        exact ⟨_, rfl, OO.out, GF.out⟩
  · rw [show pasL h lag = [] from if_neg hlag, show pasE lag = 2 from if_neg hlag]
    rw [decide_eq_false hlag] at WI
    clear hlag
    go_enter Tryz.func172, Tryz.ntmps172
    go_wp2_with fail
    refine (WI.out _).mono ?_
    rintro e w1 ⟨rfl, rfl⟩
    clear WI
    go_wp2_with fail
    go_ret2
    exact ⟨_, rfl, Own_nil _ _, G0.out⟩
end Go.Proofs.YtjepkgdejkifcaaGreatDoor

/- PitG -/
namespace Go.Proofs.YtjepkgdejkifcaaGreatDoor
open Go.RowKit
set_option linter.unusedVariables false
set_option linter.unusedSimpArgs false
set_option maxHeartbeats 1000000
theorem pitGain_any (n : Int) (w : World) (ht : TabA w 3 gains 8) : Calls Tryz.prog 140 #[.int .i64 n] w (Ans w (.tuple #[.int .i64 (gaV n), .int .i64 (gaE n)])) := by
  have WI := hide (pitWithin_any n 0 7 w)
  by_cases h : 0 ≤ n ∧ n ≤ 7
  · rw [decide_eq_true h] at WI
    rw [show gaV n = gainN n.toNat from if_pos h, show gaE n = 0 from if_pos h]
    obtain ⟨k, rfl⟩ : ∃ k : Nat, n = (k : Int) := ⟨n.toNat, by omega⟩
    rw [Int.toNat_natCast]
    have ck := ht k (by omega)
    rw [show gains.getD k 0 = gainN k from rfl] at ck
    have i1 : (k : Int) < 8 := by omega
    clear ht h
    generalize gainN k = z at *
    go_enter Tryz.func140, Tryz.ntmps140
    go_wp2_with fail
    refine WI.out.mono ?_
    rintro e w1 ⟨rfl, rfl⟩
    clear WI
    go_wp2_with fail
    go_ret2
    exact ⟨rfl, rfl⟩
  · rw [decide_eq_false h] at WI
    rw [show gaV n = 0 from if_neg h, show gaE n = 2 from if_neg h]
    clear ht h
    go_enter Tryz.func140, Tryz.ntmps140
    go_wp2_with fail
    refine WI.out.mono ?_
    rintro e w1 ⟨rfl, rfl⟩
    clear WI
    go_wp2_with fail
    go_ret2
    exact ⟨rfl, rfl⟩
end Go.Proofs.YtjepkgdejkifcaaGreatDoor

/- AppL -/
namespace Go.Proofs.YtjepkgdejkifcaaGreatDoor
open Go.RowKit
set_option linter.unusedVariables false
set_option linter.unusedSimpArgs false
set_option maxHeartbeats 1000000
theorem run_app {w : World} {base : Nat} {v vb : Value} {A B : List Int} (ha : Own base w v A) (hb : Ints w vb B) (hB : 0 < B.length) (hl : (A.length + B.length) * 8 ≤ 140737488355328) (hbase : base ≤ w.heap.size) (ty : TypeId) :
    ∃ v' w', Sem.run Tryz.prog (Builtin.append_ #[27, 27] ty #[v, vb]) w = .ok v' w' ∧ Own base w' v' (A ++ B) ∧ w.grownBy w' v.ownBlock ∧ ∀ g', v'.ownBlock = some g' → v.ownBlock = some g' ∨ w.heap.size ≤ g' := by
  obtain ⟨i0, hi, hz0, hz1, hz2⟩ := info_parts infoI64
  obtain ⟨ad, c, rfl, hc, hv⟩ := hb
  obtain ⟨ab, rfl, hcell⟩ := hv hB
  have hnews : ∀ j u, (B.map (Value.int .i64))[j]? = some u → w.cell? (ab.add j) = some u := fun j u hu => by
    have hj : j < B.length := by
      by_cases hj : j < B.length
      · exact hj
      · rw [List.getElem?_eq_none (by simp; omega)] at hu; cases hu
    rw [hcell j hj]
    simpa [nth, List.getD, hj] using hu
  have hone : ∀ u ∈ B.map (Value.int .i64), u.oneCell' = true := fun u hu => by
    obtain ⟨x, _, rfl⟩ := List.mem_map.1 hu
    rfl
  obtain ⟨v', w', hr, h2, h3, _⟩ := run_append_own (P := Tryz.prog) w base 27 ty 3 i0 (.int .i64 0) 1 8 Tryz.underlying27 hi hz0 hz1 hz2 rfl (by decide) v A.length _ ha ab B.length c (B.map (Value.int .i64)) (by simp) hnews hone (by unfold maxLen; omega) (by omega) hbase
  refine ⟨v', w', hr, by unfold Own; simpa using h2, h3, fun g' hg' => ?_⟩
  rcases ha.2 with ⟨rfl, hA⟩ | ⟨g, cap, cur, rfl, hbg, hg, hnc, hcm, hcs, htake⟩
  · have hA0 : A = [] := List.eq_nil_of_length_eq_zero hA
    subst hA0
    obtain ⟨v2, w2, hr2, o2, _, _⟩ := run_append_own (P := Tryz.prog) w w.heap.size 27 ty 3 i0 (.int .i64 0) 1 8 Tryz.underlying27 hi hz0 hz1 hz2 rfl (by decide) (.slice none 0 0) 0 [] (World.ownsRow_nil _ _ _ _) ab B.length c (B.map (Value.int .i64)) (by simp) hnews hone (by unfold maxLen; simp at hl; omega) (by simpa using hl) (Nat.le_refl _)
    rw [hr] at hr2
    cases hr2
    exact .inr (o2.lt g' hg').1
  · by_cases hroom : A.length + B.length ≤ cap
    · have hr2 := run_append_room (P := Tryz.prog) w 27 ty 3 i0 Tryz.underlying27 hi g A.length cap cur hg ab B.length c (B.map (Value.int .i64)) (by rw [hz1]; simp) hnews hone hroom (by rw [hz1, hcs]; simp; omega)
      rw [hr] at hr2
      cases hr2
      exact .inl hg'
    · have hr2 := run_append_grow (P := Tryz.prog) w 27 ty 3 i0 (.int .i64 0) Tryz.underlying27 hi hz0 ⟨g, 0, none⟩ A.length cap (A.map (Value.int .i64)) (by rw [hz1]; simp) (World.ownsRow.cells ha (g := g) rfl) ab B.length c (B.map (Value.int .i64)) (by rw [hz1]; simp) hnews (by omega) (by omega) (by rw [hz2]; exact growslice_fits (by omega) (by omega))
      rw [hr] at hr2
      cases hr2
      simp [Value.ownBlock] at hg'
      exact .inr (by omega)
theorem wpList_app {ops : Array Oper} {rest : List Oper} {o : Oper} {a : Act} {w : World} {Q : Exit → Act → World → Prop} (hgd : Region.wanted o (yielded ops a.tmps) = true) (s x : Operand)
    (hop : o.op = Op.call { callee := Callee.builtin Builtin.append, args := #[s, x], argTypes := #[27, 27] }) (base : Nat) (va vb : Value) (A B : List Int) (hs : a.eval s = va) (hx : a.eval x = vb) (ha : Own base w va A) (hb : Ints w vb B) (hB : 0 < B.length)
    (hl : (A.length + B.length) * 8 ≤ 140737488355328) (hbase : base ≤ w.heap.size)
    (h : ∀ v' w', Own base w' v' (A ++ B) → w.grownBy w' va.ownBlock → (∀ g', v'.ownBlock = some g' → va.ownBlock = some g' ∨ w.heap.size ≤ g') → wpList Tryz.prog ops Q rest (a.put o.dst v') w') : wpList Tryz.prog ops Q (o :: rest) a w := by
  obtain ⟨v', w', hr, h1, h2, h3⟩ := run_app ha hb hB hl hbase o.type
  refine wpList_step fun K hK => ?_
  rw [if_pos hgd]
  unfold Oper.wp
  simp [execOp, hop, resolve, invoke, builtin, hs, hx, hr, Result.andThen]
  exact hK _ _ (h v' w' h1 h2 h3)
def Fam (base : Nat) (w : World) (vs : List (Value × List Int)) : Prop :=
  (∀ (i : Nat) (v : Value) (A : List Int), vs[i]? = some (v, A) → Own base w v A) ∧ ∀ (i j : Nat) (v : Value) (A : List Int) (u : Value) (B : List Int), vs[i]? = some (v, A) → vs[j]? = some (u, B) → i ≠ j → ∀ g, v.ownBlock = some g → u.ownBlock ≠ some g
theorem Fam.get {base : Nat} {w : World} {vs : List (Value × List Int)} (h : Fam base w vs) (i : Nat) {v : Value} {A : List Int} (hi : vs[i]? = some (v, A)) : Own base w v A := h.1 i v A hi
theorem Fam.keep {base : Nat} {w w' : World} {vs : List (Value × List Int)} (h : Fam base w vs) (g : w.grownBy w' none) : Fam base w' vs := ⟨fun i v A hi => (h.1 i v A hi).keep g, h.2⟩
theorem Fam.upd {base : Nat} {w w' : World} {vs : List (Value × List Int)} (h : Fam base w vs) (i : Nat) (v v' : Value) (A A' : List Int) (hi : vs[i]? = some (v, A)) (g : w.grownBy w' v.ownBlock) (o : Own base w' v' A') (n : ∀ g', v'.ownBlock = some g' → v.ownBlock = some g' ∨ w.heap.size ≤ g') : Fam base w' (vs.set i (v', A')) := by
  have hlen : i < vs.length := by
    rcases Nat.lt_or_ge i vs.length with h | h
    · exact h
    · rw [List.getElem?_eq_none h] at hi; cases hi
  have get : ∀ (j : Nat) (u : Value) (B : List Int), (vs.set i (v', A'))[j]? = some (u, B) → (j = i ∧ u = v' ∧ B = A') ∨ (j ≠ i ∧ vs[j]? = some (u, B)) := fun j u B hj => by
    by_cases e : j = i
    · subst e
      rw [List.getElem?_set_self hlen] at hj
      cases hj
      exact .inl ⟨rfl, rfl, rfl⟩
    · rw [List.getElem?_set_ne (Ne.symm e)] at hj
      exact .inr ⟨e, hj⟩
  have old : ∀ (j : Nat) (u : Value) (B : List Int), j ≠ i → vs[j]? = some (u, B) → Own base w' u B := fun j u B hj hu => by
    refine (h.1 j u B hu).kept g ?_
    rcases e : u.ownBlock with _ | b
    · exact .inl rfl
    · right
      intro e'
      exact h.2 j i u B v A hu hi hj b e e'.symm
  have new : ∀ (j : Nat) (u : Value) (B : List Int), j ≠ i → vs[j]? = some (u, B) → ∀ g, u.ownBlock = some g → v'.ownBlock ≠ some g := fun j u B hj hu k hk e => by
    rcases n k e with q | q
    · exact h.2 j i u B v A hu hi hj k hk q
    · have := ((h.1 j u B hu).lt k hk).2
      omega
  refine ⟨fun j u B hj => ?_, fun j k u B u2 B2 hj hk hjk g hg => ?_⟩
  · rcases get j u B hj with ⟨_, rfl, rfl⟩ | ⟨e, hu⟩
    · exact o
    · exact old j u B e hu
  · rcases get j u B hj with ⟨rfl, rfl, rfl⟩ | ⟨e, hu⟩ <;> rcases get k u2 B2 hk with ⟨rfl, rfl, rfl⟩ | ⟨e2, hu2⟩
    · exact absurd rfl hjk
    · intro q
      exact new k u2 B2 e2 hu2 g q hg
    · exact new j u B e hu g hg
    · exact h.2 j k u B u2 B2 hu hu2 hjk g hg
theorem Fam.put {base : Nat} {w w' : World} {vs : List (Value × List Int)} (h : Fam base w vs) (i : Nat) (v' : Value) (A' : List Int) (hi : vs[i]? = some (.slice none 0 0, [])) (g : w.grownBy w' none) (o : Own base w' v' A') (n : ∀ g', v'.ownBlock = some g' → w.heap.size ≤ g') : Fam base w' (vs.set i (v', A')) :=
  h.upd i _ v' [] A' hi g o (fun g' hg' => .inr (n g' hg'))
theorem Fam.nil {base : Nat} {w : World} {n : Nat} : Fam base w (List.replicate n (.slice none 0 0, [])) :=
  ⟨fun i v A hi => by
    have := (List.mem_replicate.1 (List.mem_of_getElem? hi)).2
    cases this
    exact Own_nil _ _, fun i j v A u B hi _ _ g hg => by
    have := (List.mem_replicate.1 (List.mem_of_getElem? hi)).2
    cases this
    cases hg⟩
theorem own_new (u : World) (base : Nat) (hb : base ≤ u.heap.size) (l : List Int) (hl : l.length ≤ 1000) : Own base (u.alloc (.cells (arrI l) 3)) (.slice (some ⟨u.heap.size, 0, none⟩) l.length l.length) l :=
  ⟨by simp, .inr ⟨u.heap.size, l.length, arrI l, rfl, hb, heap_new u _, Nat.le_refl _, by unfold maxLen; omega, by simp [arrI], by simp [arrI]; exact List.take_of_length_le (by simp)⟩⟩
theorem step_app {y : Nat → Option Bool} {o : Oper} {a : Act} {w : World} {K : Act → World → Prop} {Q : Exit → Act → World → Prop} {E : Prop} (hg : o.guard = none) (s x : Operand)
    (hop : o.op = Op.call { callee := Callee.builtin Builtin.append, args := #[s, x], argTypes := #[27, 27] }) (base : Nat) (va vb : Value) (A B : List Int) (hs : a.eval s = va) (hx : a.eval x = vb) (ha : Own base w va A) (hb : Ints w vb B) (hB : 0 < B.length)
    (hl : (A.length + B.length) * 8 ≤ 140737488355328) (hbase : base ≤ w.heap.size)
    (h : ∀ v' w', Own base w' v' (A ++ B) → w.grownBy w' va.ownBlock → (∀ g', v'.ownBlock = some g' → va.ownBlock = some g' ∨ w.heap.size ≤ g') → K (a.put o.dst v') w') : if Region.wanted o y = true then Oper.wp Tryz.prog o a w K Q else E := by
  have hw : Region.wanted o y = true := by simp [Region.wanted, hg]
  rw [if_pos hw]
  obtain ⟨v', w', hr, h1, h2, h3⟩ := run_app ha hb hB hl hbase o.type
  unfold Oper.wp
  simp [execOp, hop, resolve, invoke, builtin, hs, hx, hr, Result.andThen]
  exact h v' w' h1 h2 h3
theorem Own.ne_blk {base : Nat} {w : World} {v : Value} {A : List Int} {b : Nat} {T : TypeId} {rs : List Int} (h : Own base w v A) (hb : Blk w b T rs) (hT : T ≠ 3) : ∀ g, v.ownBlock = some g → b ≠ g := by
  intro g hg e
  rcases h.2 with ⟨rfl, _⟩ | ⟨g', cap, cur, rfl, _, hh, _⟩
  · cases hg
  · simp [Value.ownBlock] at hg
    subst hg
    subst e
    unfold Blk at hb
    rw [hh] at hb
    simp at hb
    exact hT hb.2.symm
theorem Blk.keepOwn {base : Nat} {w w' : World} {v : Value} {A : List Int} {b : Nat} {T : TypeId} {rs : List Int} (hb : Blk w b T rs) (h : Own base w v A) (hT : T ≠ 3) (g : w.grownBy w' v.ownBlock) : Blk w' b T rs := by
  rcases e : v.ownBlock with _ | k
  · rw [e] at g; exact hb.keep g
  · rw [e] at g; exact hb.keepBut g (h.ne_blk hb hT k e)
end Go.Proofs.YtjepkgdejkifcaaGreatDoor

/- PartL -/
namespace Go.Proofs.YtjepkgdejkifcaaGreatDoor
open Go.RowKit
set_option linter.unusedVariables false
set_option linter.unusedSimpArgs false
set_option maxHeartbeats 1000000
def splI (L : List Int) (off : Nat) (M : List Int) : List Int := L.take off ++ M ++ L.drop (off + M.length)
theorem splI_len (L : List Int) (off : Nat) (M : List Int) (h : off + M.length ≤ L.length) : (splI L off M).length = L.length := by simp [splI]; omega
theorem splI_nth (L : List Int) (off : Nat) (M : List Int) (h : off + M.length ≤ L.length) (k : Nat) : nth (splI L off M) k = if k < off then nth L k else if k < off + M.length then nth M (k - off) else nth L k := by
  unfold splI nth
  have e : min off L.length = off := by omega
  by_cases h1 : k < off
  · rw [if_pos h1]
    simp [List.getD, List.getElem?_append, h1, e, show k < L.length by omega, show k < off + M.length by omega]
  · rw [if_neg h1]
    by_cases h2 : k < off + M.length
    · rw [if_pos h2]
      simp [List.getD, List.getElem?_append, e, h1, h2]
      rw [if_pos (by omega)]
    · rw [if_neg h2]
      simp [List.getD, List.getElem?_append, e, h1, h2]
      rw [if_neg (by omega), show off + M.length + (k - off - M.length) = k by omega]
theorem grown_setRowI (w : World) (g : Nat) (cs : Array Value) : w.grownBy (w.setRow g cs) (some g) :=
  ⟨rfl, rfl, rfl, by simp, fun k _ h => setRow_other w g k cs (fun e => h (by rw [e]))⟩
theorem step_copyI {y : Nat → Option Bool} {o : Oper} {a : Act} {w : World} {K : Act → World → Prop} {Q : Exit → Act → World → Prop} {E : Prop} (hg : o.guard = none) (d s : Operand)
    (hop : o.op = Op.call { callee := Callee.builtin Builtin.copy, args := #[d, s], argTypes := #[27, 27] }) (b off n dc sc : Nat) (T : TypeId) (p L : List Int) (ad : Addr) (hb : Blk w b T p)
    (hd : a.eval d = .slice (some ⟨b, off, none⟩) n dc) (hs : a.eval s = .slice (some ad) n sc) (hL : L.length = n) (hsrc : ∀ j, j < n → w.cell? (ad.add j) = some (.int .i64 (nth L j))) (hfit : off + n ≤ p.length)
    (hK : ∀ w', Blk w' b T (splI p off L) → w.grownBy w' (some b) → K (a.put o.dst (goInt n)) w') : if Region.wanted o y = true then Oper.wp Tryz.prog o a w K Q else E := by
  have hw : Region.wanted o y = true := by simp [Region.wanted, hg]
  rw [if_pos hw]
  have hsz : (Tryz.prog.info? 3).map (·.size) = some 1 := by kernel_rfl
  have hrun := run_copy_row (P := Tryz.prog) w 27 27 o.type 3 b off n dc ad n sc (arrI p) T (L.map (Value.int .i64)) Tryz.underlying27 hsz hb (by simp [hL])
    (fun j v hv => by
      have hj : j < L.length := by
        by_cases hj : j < L.length
        · exact hj
        · rw [List.getElem?_eq_none (by simp; omega)] at hv; cases hv
      rw [hsrc j (by omega)]
      simpa [nth, List.getD, hj] using hv)
    (by simp [arrI, hL]; omega) (fun v hv => by
      obtain ⟨x, _, rfl⟩ := List.mem_map.1 hv
      rfl)
  have e : ((arrI p).toList.take off ++ L.map (Value.int .i64) ++ (arrI p).toList.drop (off + (L.map (Value.int .i64)).length)).toArray = arrI (splI p off L) := by
    simp [arrI, splI, List.map_take, List.map_drop]
  rw [e, List.length_map, hL] at hrun
  unfold Oper.wp
  simp [execOp, hop, resolve, invoke, builtin, hd, hs, hrun, Result.andThen]
  exact hK _ (setRow_heap _ _ _ _ _ _ hb) (grown_setRowI _ _ _)
theorem heap_setPart (b : Nat) (T : TypeId) : ∀ (M : List Int) (o : Nat) (w : World) (p : List Int), Blk w b T p → o + M.length ≤ p.length → Blk (w.setCells b o (M.map (Value.int .i64))) b T (splI p o M) ∧ w.grownBy (w.setCells b o (M.map (Value.int .i64))) (some b)
  | [], o, w, p, h, _ => ⟨by show Blk w b T (splI p o []); unfold splI; simp; exact h, grown_refl w _⟩
  | z :: M, o, w, p, h, hl => by
    simp only [List.length_cons] at hl
    have h1 := h.set o z
    obtain ⟨a1, a2⟩ := heap_setPart b T M (o + 1) (w.setCell ⟨b, o, none⟩ (.int .i64 z)) (p.set o z) h1 (by rw [List.length_set]; omega)
    refine ⟨?_, grown_trans (grown_setCell w ⟨b, o, none⟩ _) a2 (some b) (fun i e _ => e) (fun i e _ => e)⟩
    have e : splI (p.set o z) (o + 1) M = splI p o (z :: M) := by
      unfold splI
      rw [List.take_succ_eq_append_getElem (by rw [List.length_set]; omega)]
      simp [show o < p.length by omega]
      rw [List.drop_set_of_lt (by omega), show o + 1 + M.length = o + (M.length + 1) by omega]
      rw [List.take_set_of_le (Nat.le_refl _)]
    rw [← e]
    exact a1
theorem step_storeI {y : Nat → Option Bool} {o : Oper} {a : Act} {w : World} {K : Act → World → Prop} {Q : Exit → Act → World → Prop} {E : Prop} (hg : o.guard = none) (T : TypeId) (x z : Operand) (ho : o.op = .store T x z)
    (b off : Nat) (TB : TypeId) (p M : List Int) (hx : a.eval x = .pointer (some ⟨b, off, none⟩)) (hy : a.eval z = .agg (arrI M)) (h : Blk w b TB p) (hl : off + M.length ≤ p.length) (hi : (Tryz.prog.info? T).map (·.size) = some M.length)
    (k : ∀ w', Blk w' b TB (splI p off M) → w.grownBy w' (some b) → K (a.put o.dst undef) w') : if Region.wanted o y = true then Oper.wp Tryz.prog o a w K Q else E := by
  have hw : Region.wanted o y = true := by simp [Region.wanted, hg]
  rw [if_pos hw]
  obtain ⟨p1, p2⟩ := heap_setPart b TB M off w p h hl
  exact wp_store_mid T x z ho b off (arrI M) hx hy (by
    rw [show (arrI M).size = M.length by simp [arrI]]
    intro j hj
    exact ⟨by rw [h.cell (off + j) (by omega)]; rfl, h.free (off + j)⟩) (by simpa [arrI] using hi) (ones_arrI M) (k _ (by simpa [arrI] using p1) (by simpa [arrI] using p2))
end Go.Proofs.YtjepkgdejkifcaaGreatDoor

/- GaiF -/
namespace Go.Proofs.YtjepkgdejkifcaaGreatDoor
open Go.RowKit
set_option linter.unusedVariables false
set_option linter.unusedSimpArgs false
set_option maxHeartbeats 1000000
theorem gaiNoise_any (s x : Int) (w : World) : Calls Tryz.prog 236 #[.int .i64 s, .int .i64 x] w fun e w' => e = .returned (.tuple #[.int .i64 (noS s), .int .i64 (noX s x)]) ∧ w' = w := by
  have e2 : bits .and .i64 (wrap64 (wrap64 (s * 31821) + 13849)) 65535 = noS s := wrap_and16 _ _ (by simp only [wrap64]; omega)
  obtain ⟨a1, a2⟩ := noS_bd s
  obtain ⟨p1, p2⟩ := noP_bd s x
  rw [show noX s x = (noS s - 32768) * noZ x / 32768 from rfl]
  generalize noS s = t at *
  by_cases h1 : x < 0
  · rw [show noZ x = 0 from if_pos h1, Int.mul_zero, show (0 : Int) / 32768 = 0 from rfl]
    clear p1 p2
    have m1 : max x 0 = 0 := by omega
    have m2 : min (0 : Int) 32767 = 0 := by omega
    go_enter Tryz.func236, Tryz.ntmps236
    go_wp2_with fail
    go_ret2
    exact ⟨rfl, rfl⟩
  · by_cases h2 : 32767 < x
    · rw [show noZ x = 32767 from by unfold noZ; rw [if_neg h1, if_pos h2]] at *
      have m1 : max x 0 = x := by omega
      have m2 : min x 32767 = 32767 := by omega
      go_enter Tryz.func236, Tryz.ntmps236
      go_wp2_with fail
      go_ret2
      exact ⟨rfl, rfl⟩
    · rw [show noZ x = x from by unfold noZ; rw [if_neg h1, if_neg h2]] at *
      have m1 : max x 0 = x := by omega
      have m2 : min x 32767 = x := by omega
      have w1 : wrap64 ((t - 32768) * x) = (t - 32768) * x := by simp only [wrap64]; omega
      go_enter Tryz.func236, Tryz.ntmps236
      go_wp2_with fail
      go_ret2
      exact ⟨rfl, rfl⟩
end Go.Proofs.YtjepkgdejkifcaaGreatDoor

/- OrderF -/
namespace Go.Proofs.YtjepkgdejkifcaaGreatDoor
set_option linter.unusedVariables false
section
variable {P : Program} {ops : Array Oper} {Q : Exit → Act → World → Prop} {md : Region.Mode} {S : World → Prop} {g : Nat}
theorem wpAnyG_still {i : Nat} {oi : Oper} {v : Value} (hi : ops[i]? = some oi) (hsel : ∀ (j : Nat) (o : Oper) cs b, ops[j]? = some o → o.op ≠ .select cs b)
    (hQ : ∀ c a w, Q (.panic c) (a.put oi.dst v) w → Q (.panic c) a w) (hgi : g ≠ i) (fuel : Nat) :
    ∀ (listed : Array Bool) (a : Act) (w : World), Alone md ops i oi listed → i ∈ Region.ready md ops listed → YieldsIf P ops (fun _ => True) oi v a → (listed.getD g false = false → S w) →
      wpAnyG P md ops Q S g fuel (listed.setIfInBounds i true) (a.put oi.dst v) w → wpAnyG P md ops Q S g (fuel + 1) listed a w := by
  have here : ∀ (listed : Array Bool) (w : World), (listed.getD g false = false → S w) → ((listed.setIfInBounds i true).getD g false = false → S w) := fun listed w h e => h (by rw [getD_set_ne false (Ne.symm hgi)] at e; exact e)
  induction fuel with
  | zero =>
    intro listed a w _ hr hy hS H
    constructor
    · intro h0; rw [h0] at hr; cases hr
    · intro j hj
      rcases Nat.decEq j i with hji | rfl
      · have hnone := ready_mono hj hji
        rw [H.1] at hnone; cases hnone
      · exact hy.wpOp hi trivial ⟨here _ _ hS, H⟩
  | succ fuel ih =>
    intro listed a w hal hr hy hS H
    have hiun := getD_both (mem_ready.1 hr).1
    constructor
    · intro h0; rw [h0] at hr; cases hr
    · intro j hj
      rcases Nat.decEq j i with hji | rfl
      · obtain ⟨hjun, oj, hoj, -⟩ := mem_ready.1 hj
        have step := wpOp_putIf hoj (hal j oj hoj hji hjun (ready_free hiun hj hoj)) (fun cs b => hsel i oi cs b hi) (fun cs b => hsel j oj cs b hoj) hQ hy (H.2 j (ready_mono hj hji))
        refine wpOp_mono (fun a' w' k => ?_) step
        obtain ⟨ky, ks, kw⟩ := k
        rw [Array.setIfInBounds_comm _ _ (Ne.symm hji)] at kw ks
        have ks' : (listed.setIfInBounds j true).getD g false = false → S w' := fun e => ks (by rw [getD_set_ne false (Ne.symm hgi)]; exact e)
        exact ⟨ks', ih _ a' w' hal.more (ready_mono hr (Ne.symm hji)) ky ks' kw⟩
      · exact hy.wpOp hi trivial ⟨here _ _ hS, H⟩
theorem wpAnyG_takeF {i : Nat} {oi : Oper} {v : Value} {fuel : Nat} {listed : Array Bool} {a : Act} {w : World} (hi : ops[i]? = some oi)
    (hst : (Region.noSelect ops && Region.free md ops listed i && (Region.ready md ops listed).contains i && g != i) = true)
    (hcl : Closed md ops listed)
    (hQ : ∀ c a w, Q (.panic c) (a.put oi.dst v) w → Q (.panic c) a w) (hy : YieldsIf P ops (fun _ => True) oi v a) (hS : S w)
    (h : Closed md ops (listed.setIfInBounds i true) → wpAnyG P md ops Q S g fuel (listed.setIfInBounds i true) (a.put oi.dst v) w) : wpAnyG P md ops Q S g (fuel + 1) listed a w := by
  simp only [Bool.and_eq_true, bne_iff_ne] at hst
  obtain ⟨⟨⟨h1, h2⟩, h3⟩, h5⟩ := hst
  have h3' : i ∈ Region.ready md ops listed := by simpa using h3
  exact wpAnyG_still hi (Region.noSelect_spec h1) hQ h5 fuel listed a w (Region.free_spec hi h2) h3' hy (fun _ => hS) (h (hcl.set h3'))
end
end Go.Proofs.YtjepkgdejkifcaaGreatDoor

/- PulA -/
namespace Go.Proofs.YtjepkgdejkifcaaGreatDoor
open Go.RowKit
set_option linter.unusedVariables false
set_option linter.unusedSimpArgs false
set_option maxHeartbeats 1000000
theorem size4 : (Tryz.prog.info? 33).map (·.size) = some 4 := by kernel_rfl
theorem pulWithin_any (x a b : Int) (w : World) : Calls Tryz.prog 203 #[.int .i64 x, .int .i64 a, .int .i64 b] w (Ans w (.bool (decide (a ≤ x ∧ x ≤ b)))) := by
  by_cases h1 : a ≤ x
  · by_cases h2 : x ≤ b
    · rw [decide_eq_true (show a ≤ x ∧ x ≤ b from ⟨h1, h2⟩)]
      go_enter Tryz.func203, Tryz.ntmps203
      go_wp2_with fail
      go_ret
      exact ⟨rfl, rfl⟩
    · rw [decide_eq_false (show ¬ (a ≤ x ∧ x ≤ b) from fun h => h2 h.2)]
      go_enter Tryz.func203, Tryz.ntmps203
      go_wp2_with fail
      go_ret
      exact ⟨rfl, rfl⟩
  · rw [decide_eq_false (show ¬ (a ≤ x ∧ x ≤ b) from fun h => h1 h.1)]
    go_enter Tryz.func203, Tryz.ntmps203
    go_wp2_with fail
    go_ret
    exact ⟨rfl, rfl⟩
theorem pulAt_any (t p : Int) (h1 : 0 ≤ t) (h2 : t ≤ 3) (h3 : 0 ≤ p) (h4 : p ≤ 9) (w : World) : Calls Tryz.prog 205 #[.int .i64 t, .int .i64 p] w (Ans w (.int .i64 (t + 4 * p))) := by
  have F := hide (show Ans w (.int .i64 (t + 4 * p)) (.returned (.int .i64 (t + 4 * p))) w from ⟨rfl, rfl⟩)
  generalize Ans w (.int .i64 (t + 4 * p)) = T at *
  go_enter Tryz.func205, Tryz.ntmps205
  go_wp2_with fail
  exact F.out
theorem pulPlaces_any (x : List Int) (hx : x.length = 4) (w : World) : Calls Tryz.prog 204 #[.agg (arrI x)] w (AnsG w (.bool (goodX x))) := by
  have B0 := hide (Blk.new w 33 x)
  have G0 := hide (grown_alloc w (.cells (arrI x) 33) none)
  have Y := hide (fun (hh : ∀ i, i < 4 → 0 ≤ nth x i ∧ nth x i ≤ 9) => (show AnsG w (.bool (goodX x)) (.returned (.bool true)) (w.alloc (.cells (arrI x) 33)) from ⟨by rw [(goodX_iff x).2 (by rw [hx]; exact hh)], G0.out⟩))
  have N := hide (fun i (hi' : i < 4) (hh : ¬ (0 ≤ nth x i ∧ nth x i ≤ 9)) => (show AnsG w (.bool (goodX x)) (.returned (.bool false)) (w.alloc (.cells (arrI x) 33)) from ⟨by
    rcases hb : goodX x with _ | _
    · rfl
    · exact absurd ((goodX_iff x).1 hb i (by omega)) hh, G0.out⟩))
  have IX := hide (fun (k : Nat) (hk : k < 4) => index_arr x Tryz.underlying33 k (by omega) hx)
  generalize AnsG w (.bool (goodX x)) = T at *
  clear G0
  go_enter Tryz.func204, Tryz.ntmps204
  go_wp2_with (first | refine wpList_load_arr rfl 33 _ rfl _ rfl _ B0.out _ Tryz.underlying33 rfl (by rw [hx]; exact size4) ?_)
  clear B0
  generalize w.alloc (.cells (arrI x) 33) = W0 at *
  go_loop [4, 6] (fun _ i => ∃ k : Nat, i = .int .i64 k ∧ k ≤ 4 ∧ Hid (∀ i, i < k → 0 ≤ nth x i ∧ nth x i ≤ 9)) (fun _ i => 4 - (intOf i).toNat)
  case atStart => exact ⟨0, rfl, Nat.zero_le _, fun i hi => by omega⟩
  case round =>
    obtain ⟨k, rfl, hk, hG⟩ := hrel
    by_cases hk4 : k < 4
    · have hix := IX.out k hk4
      have NK := hide (N.out k hk4)
      have GK := hide (fun (hh : 0 ≤ nth x k ∧ nth x k ≤ 9) => (show ∀ i, i < k + 1 → 0 ≤ nth x i ∧ nth x i ≤ 9 from fun i hi => by
        rcases Nat.lt_or_ge i k with g | g
        · exact hG.out i g
        · obtain rfl : i = k := by omega
          exact hh))
      clear Y N hG IX
      generalize nth x k = z at *
      have kl1 : (k : Int) < 4 := by omega
      have ST := hide (pulWithin_any z 0 9 W0)
      by_cases hz : 0 ≤ z ∧ z ≤ 9
      · have F := hide (GK.out hz)
        rw [decide_eq_true hz] at ST
        clear NK GK hz
        go_wp2_with fail
        refine ST.out.mono ?_
        rintro e w1 ⟨rfl, rfl⟩
        clear ST
        go_wp2_with fail
        go_round
        case rel => exact ⟨k + 1, by go_num, by omega, F.out⟩
        case measure => simp [intOf]; omega
      · have F := hide (NK.out hz)
        rw [decide_eq_false hz] at ST
        clear NK GK hz
        go_wp2_with fail
        refine ST.out.mono ?_
        rintro e w1 ⟨rfl, rfl⟩
        clear ST
        go_wp2_with fail
        exact F.out
    · obtain rfl : k = 4 := by omega
      have F := hide (Y.out hG.out)
      clear Y N hG IX
      go_wp2_with fail
      exact F.out
end Go.Proofs.YtjepkgdejkifcaaGreatDoor

/- PulI -/
namespace Go.Proofs.YtjepkgdejkifcaaGreatDoor
open Go.RowKit
set_option linter.unusedVariables false
set_option linter.unusedSimpArgs false
set_option maxHeartbeats 1000000
theorem and1F : ∀ q : Fin 16, bits BinOp.and IntKind.i64 (q.val : Int) 1 = (q.val : Int) % 2 := by decide +kernel
theorem div_small (s : Int) (m : Nat) (h0 : 0 ≤ s) (h1 : s ≤ 15) : (s / 2 ^ m % 2 = 1 ∧ bits BinOp.and IntKind.i64 (s / 2 ^ m) 1 = 1) ∨ (¬ s / 2 ^ m % 2 = 1 ∧ bits BinOp.and IntKind.i64 (s / 2 ^ m) 1 = 0) := by
  have hp : (1 : Int) ≤ 2 ^ m := Int.pow_pos (by omega)
  have a1 : 0 ≤ s / 2 ^ m := Int.ediv_nonneg h0 (by omega)
  have a2 : s / 2 ^ m ≤ s := Int.ediv_le_self _ h0
  generalize s / 2 ^ m = q at *
  have := and1F ⟨q.toNat, by omega⟩
  simp only at this
  rw [show ((q.toNat : Nat) : Int) = q by omega] at this
  by_cases h : q % 2 = 1
  · exact .inl ⟨h, by rw [this, h]⟩
  · exact .inr ⟨h, by rw [this]; omega⟩
set_option maxRecDepth 100000 in
theorem pulBuild_no (x : List Int) (hx : x.length = 4) (s z : Int) (h : ¬ ((0 ≤ s ∧ s ≤ 15) ∧ (0 ≤ z ∧ z ≤ 32767) ∧ goodX x = true)) (w : World) :
    Calls Tryz.prog 142 #[.agg (arrI x), .int .i64 s, .int .i64 z] w (ListE w [] 2) := by
  have B0 := hide (Blk.new w 33 x)
  have G0 := hide (grown_alloc w (.cells (arrI x) 33) none)
  have PC := hide (pulPlaces_any x hx)
  have WS := hide (pulWithin_any s 0 15)
  have WZ := hide (pulWithin_any z 0 32767)
  by_cases h1 : 0 ≤ s ∧ s ≤ 15
  · rw [decide_eq_true h1] at WS
    by_cases h2 : 0 ≤ z ∧ z ≤ 32767
    · have hg : goodX x = false := by
        rcases hb : goodX x with _ | _
        · rfl
        · exact absurd ⟨h1, h2, hb⟩ h
      rw [decide_eq_true h2] at WZ
      rw [hg] at PC
      clear h h1 h2 hg
      go_enter Tryz.func142, Tryz.ntmps142
      go_upto_region 1 with fail
      generalize w.alloc _ = W1 at *
      go_wp2_with fail
      refine (WS.out W1).mono ?_
      rintro e w1 ⟨rfl, rfl⟩
      clear WS
      go_wp2_with fail
      refine (WZ.out w1).mono ?_
      rintro e w2 ⟨rfl, rfl⟩
      clear WZ
      go_wp2_with (first | refine wpList_load_arrG (by rfl) 33 _ rfl _ rfl _ B0.out _ Tryz.underlying33 rfl (by rw [hx]; exact size4) ?_)
      refine (PC.out w2).mono ?_
      rintro e w3 ⟨rfl, g3⟩
      have GF := hide (grown_none G0.out g3)
      clear PC g3 B0 G0
      go_wp2_with fail
      go_ret2
      exact ⟨_, rfl, Own_nil _ _, GF.out⟩
    · rw [decide_eq_false h2] at WZ
      clear h h1 h2 PC
      go_enter Tryz.func142, Tryz.ntmps142
      go_upto_region 1 with fail
      generalize w.alloc _ = W1 at *
      go_wp2_with fail
      refine (WS.out W1).mono ?_
      rintro e w1 ⟨rfl, rfl⟩
      clear WS
      go_wp2_with fail
      refine (WZ.out w1).mono ?_
      rintro e w2 ⟨rfl, rfl⟩
      clear WZ B0
      go_wp2_with fail
      go_ret2
      exact ⟨_, rfl, Own_nil _ _, G0.out⟩
  · rw [decide_eq_false h1] at WS
    clear h h1 PC WZ
    go_enter Tryz.func142, Tryz.ntmps142
    go_upto_region 1 with fail
    generalize w.alloc _ = W1 at *
    go_wp2_with fail
    refine (WS.out W1).mono ?_
    rintro e w1 ⟨rfl, rfl⟩
    clear WS B0
    go_wp2_with fail
    go_ret2
    exact ⟨_, rfl, Own_nil _ _, G0.out⟩
set_option maxRecDepth 100000 in
theorem pulBuild_yes (x : List Int) (hx : x.length = 4) (s z : Int) (h : (0 ≤ s ∧ s ≤ 15) ∧ (0 ≤ z ∧ z ≤ 32767) ∧ goodX x = true) (w : World) :
    Calls Tryz.prog 142 #[.agg (arrI x), .int .i64 s, .int .i64 z] w (ListE w (tab 40 (blN x s z)) 0) := by
  have B0 := hide (Blk.new w 33 x)
  have G0 := hide (grown_alloc w (.cells (arrI x) 33) none)
  have PC := hide (pulPlaces_any x hx)
  have WS := hide (pulWithin_any s 0 15)
  have WZ := hide (pulWithin_any z 0 32767)
  obtain ⟨h1, h2, hg⟩ := h
  rw [decide_eq_true h1] at WS
  rw [decide_eq_true h2] at WZ
  rw [hg] at PC
  have hmk := make_zeros 40 (by omega)
  rw [show ((40 : Nat) : Int) = 40 from rfl] at hmk
  have HG := hide hg
  have HX := hide hx
  have IX := hide (fun (k : Nat) (hk : k < 4) => index_arr x Tryz.underlying33 k (by omega) hx)
  obtain ⟨s1, s2⟩ := h1
  obtain ⟨z1, z2⟩ := h2
  clear hg
  go_enter Tryz.func142, Tryz.ntmps142
  go_upto_region 1 with fail
  generalize w.alloc _ = W1 at *
  go_wp2_with fail
  refine (WS.out W1).mono ?_
  rintro e w1 ⟨rfl, rfl⟩
  clear WS
  go_wp2_with fail
  refine (WZ.out w1).mono ?_
  rintro e w2 ⟨rfl, rfl⟩
  clear WZ
  go_wp2_with (first | refine wpList_load_arrG (by rfl) 33 _ rfl _ rfl _ B0.out _ Tryz.underlying33 rfl (by rw [hx]; exact size4) ?_)
  refine (PC.out w2).mono ?_
  rintro e w3 ⟨rfl, g3⟩
  have ga := grown_alloc w3 (.cells (arrI (zeros 40)) 3) none
  have M0 := hide (show Blk (w3.alloc (.cells (arrI (zeros 40)) 3)) w3.heap.size 3 (zeros 40) ∧ w.heap.size ≤ w3.heap.size ∧ w.grownBy (w3.alloc (.cells (arrI (zeros 40)) 3)) none from ⟨Blk.new w3 _ _, Nat.le_trans G0.out.size g3.size, grown_none (grown_none G0.out g3) ga⟩)
  have BX := hide ((B0.out.keep g3).keep ga)
  clear PC g3 B0 G0 ga
  go_upto_region 4 with fail
  generalize w3.alloc _ = W4 at *
  generalize w3.heap.size = B at *
  clear hmk
  go_wp2_with (first | refine wpList_load_arr rfl 33 _ rfl _ rfl _ BX.out _ Tryz.underlying33 rfl (by rw [hx]; exact size4) ?_)
  clear BX
  go_loopw [27] (fun i wr => ∃ (m : Nat) (rs : List Int), i = .int .i64 m ∧ m ≤ 4 ∧ Hid (FillB x s z m rs) ∧ Hid (Blk wr B 3 rs ∧ w.heap.size ≤ B ∧ w.grownBy wr none)) (fun i _ => 4 - (intOf i).toNat)
  case atStart => exact ⟨0, zeros 40, rfl, Nat.zero_le _, fillB_start x s z, M0.out⟩
  case round =>
    obtain ⟨m, rs, rfl, hm, hF, hM⟩ := hrel
    clear M0
    by_cases hm4 : m < 4
    · have hix := IX.out m hm4
      have i1 : (m : Int) < 4 := by omega
      have hPL := psN_lt HG.out HX.out m hm4
      obtain ⟨g1, g2⟩ := (goodX_iff x).1 HG.out m (by omega)
      have AT := hide (pulAt_any (m : Int) (nth x m) (by omega) (by omega) g1 g2 wr)
      rw [show (m : Int) + 4 * nth x m = ((psN x m : Nat) : Int) by unfold psN; omega] at AT
      have NF := hide (fillB_step HG.out HX.out hm4 hF.out)
      have rl := hF.out.1
      have cd := hM.out.1.cell (psN x m) (by omega)
      have fd := hM.out.1.free (psN x m)
      have gs := grown_setCell wr ⟨B, psN x m, none⟩ (.int .i64 (blV s z m))
      have NM := hide (show Blk (wr.setCell ⟨B, psN x m, none⟩ (.int .i64 (blV s z m))) B 3 (rs.set (psN x m) (blV s z m)) ∧ w.heap.size ≤ B ∧ w.grownBy (wr.setCell ⟨B, psN x m, none⟩ (.int .i64 (blV s z m))) none from ⟨hM.out.1.set _ _, hM.out.2.1, grown_own hM.out.2.2 gs hM.out.2.1⟩)
      have QB := hide (div_small s m s1 s2)
      have EV := hide (show blV s z m = if s / 2 ^ m % 2 = 1 then z else -z from rfl)
      have i2 : ((psN x m : Nat) : Int) < 40 := by omega
      clear hF hM gs rl g1 g2
      generalize psN x m = P at *
      generalize nth x m = pl at *
      generalize nth rs P = q at *
      generalize blV s z m = V at *
      rcases QB.out with ⟨hq, hb⟩ | ⟨hq, hb⟩
      · have HV := hide (show V = z by rw [EV.out, if_pos hq])
        clear hq EV QB
        go_wp2_with fail
        refine AT.out.mono ?_
        rintro e wy ⟨rfl, rfl⟩
        clear AT hb
        rw [HV.out] at NF NM
        go_wp2_with fail
        go_roundw
        case rel => exact ⟨m + 1, _, by go_num, by omega, NF.out, NM.out⟩
        case measure => simp [intOf]; omega
      · have HV := hide (show V = -z by rw [EV.out, if_neg hq])
        clear hq EV QB
        go_wp2_with fail
        refine AT.out.mono ?_
        rintro e wy ⟨rfl, rfl⟩
        clear AT hb
        rw [HV.out] at NF NM
        go_wp2_with fail
        go_roundw
        case rel => exact ⟨m + 1, _, by go_num, by omega, NF.out, NM.out⟩
        case measure => simp [intOf]; omega
    · obtain rfl : m = 4 := by omega
      have rl := hF.out.1
      have OF := own_blk (base := w.heap.size) hM.out.1 hM.out.2.1 (by omega)
      rw [rl, fillB_all hF.out] at OF
      have OO := hide OF
      have GF := hide hM.out.2.2
      clear hF hM rl OF
      rw [show ((4 : Nat) : Int) = 4 from rfl]
      go_wp2_with fail
      go_ret2
      exact ⟨_, rfl, OO.out, GF.out⟩
theorem pulBuild_any (x : List Int) (hx : x.length = 4) (s z : Int) (w : World) : Calls Tryz.prog 142 #[.agg (arrI x), .int .i64 s, .int .i64 z] w (ListE w (blL x s z) (blE x s z)) := by
  by_cases h : (0 ≤ s ∧ s ≤ 15) ∧ (0 ≤ z ∧ z ≤ 32767) ∧ goodX x = true
  · obtain ⟨e1, e2⟩ := blL_yes h
    rw [e1, e2]
    exact pulBuild_yes x hx s z h w
  · obtain ⟨e1, e2⟩ := blL_no h
    rw [e1, e2]
    exact pulBuild_no x hx s z h w
end Go.Proofs.YtjepkgdejkifcaaGreatDoor

/- Dual -/
namespace Go.Proofs.YtjepkgdejkifcaaGreatDoor
open Go.RowKit
set_option maxHeartbeats 400000
theorem within_yes (x l m : Int) (h1 : l ≤ x) (h2 : x ≤ m) (w : World) :
    Calls Tryz.prog 240 #[.int .i64 x, .int .i64 l, .int .i64 m] w fun e w' => e = .returned (.bool true) ∧ w' = w := by
  go_enter Tryz.func240, Tryz.ntmps240
  go_wp2
  go_ret
  exact ⟨rfl, rfl⟩
end Go.Proofs.YtjepkgdejkifcaaGreatDoor

/- Pow -/
namespace Go.Proofs.YtjepkgdejkifcaaGreatDoor
open Go.RowKit
set_option maxHeartbeats 1000000
theorem wrap_i64_at (n : Int) (h0 : 0 ≤ n) (h1 : n < 9223372036854775808) : IntKind.i64.wrap n = n := by
  have e : n % 2 ^ 64 = n := Int.emod_eq_of_lt (by omega) (by omega)
  simp only [IntKind.wrap, IntKind.bits, IntKind.signed, e]
  rw [if_neg (by simp; omega)]
theorem and_low1 (x : Int) : bits .and .i64 x 1 = x % 2 := by
  show IntKind.i64.wrap ((BitVec.ofInt 64 x &&& BitVec.ofInt 64 1).toNat : Int) = _
  rw [BitVec.toNat_and, BitVec.toNat_ofInt, show (BitVec.ofInt 64 1).toNat = 2 ^ 1 - 1 by decide, Nat.and_two_pow_sub_one_eq_mod]
  rw [wrap_i64_at _ (by omega) (by omega)]
  omega
def groV : Value := .agg #[.int .i64 444758425, .int .i64 203159592, .int .i64 97181937, .int .i64 47538611, .int .i64 23511884, .int .i64 11692281, .int .i64 5830311, .int .i64 2911209, .int .i64 1454619, .int .i64 727063, .int .i64 363470, .int .i64 181719, .int .i64 90856, .int .i64 45427, .int .i64 22713]
theorem index_gro (k : Nat) (hk : k < 15) (w : World) : Sem.run Tryz.prog (Instr.index 226 groV (.int .i64 k)) w = .ok (.int .i64 (groAt k)) w := by
  have h : k = 0 ∨ k = 1 ∨ k = 2 ∨ k = 3 ∨ k = 4 ∨ k = 5 ∨ k = 6 ∨ k = 7 ∨ k = 8 ∨ k = 9 ∨ k = 10 ∨ k = 11 ∨ k = 12 ∨ k = 13 ∨ k = 14 := by omega
  rcases h with rfl | rfl | rfl | rfl | rfl | rfl | rfl | rfl | rfl | rfl | rfl | rfl | rfl | rfl | rfl
  all_goals simp [Instr.index, go_sem, groV, groAt, gro]
theorem groAt_bd (k : Nat) (h : k < 15) : 0 ≤ groAt k ∧ groAt k ≤ 444758425 := by
  have : ∀ k : Fin 15, 0 ≤ groAt k.val ∧ groAt k.val ≤ 444758425 := by decide
  exact this ⟨k, h⟩
theorem up_bd (x r : Int) (h1 : 1073741824 ≤ x) (h2 : x ≤ 2147438200) (h3 : 0 ≤ r) (h4 : r ≤ 444758425) : 0 ≤ x * r ∧ x * r ≤ 955091231616835000 := by
  have e1 := Int.mul_le_mul h2 h4 h3 (by decide)
  exact ⟨Int.mul_nonneg (by omega) h3, by omega⟩
def Grows (w : World) : Prop := ∀ i, i < 15 → w.cell? ⟨5, i, none⟩ = some (.int .i64 (groAt i))
set_option maxRecDepth 100000 in
theorem pow_yes (n : Nat) (f : Int) (hn : n ≤ 30) (h1 : 0 ≤ f) (h2 : f ≤ 32767) (w : World) (hG : Grows w) :
    Calls Tryz.prog 202 #[.int .i64 n, .int .i64 f] w fun e w' => e = .returned (.tuple #[.int .i64 (powN n f), .int .i64 0]) ∧ w' = w := by
  have c0 : w.cell? ⟨5, 0, none⟩ = some (.int .i64 444758425) := hG 0 (by omega)
  have c1 : w.cell? ⟨5, 1, none⟩ = some (.int .i64 203159592) := hG 1 (by omega)
  have c2 : w.cell? ⟨5, 2, none⟩ = some (.int .i64 97181937) := hG 2 (by omega)
  have c3 : w.cell? ⟨5, 3, none⟩ = some (.int .i64 47538611) := hG 3 (by omega)
  have c4 : w.cell? ⟨5, 4, none⟩ = some (.int .i64 23511884) := hG 4 (by omega)
  have c5 : w.cell? ⟨5, 5, none⟩ = some (.int .i64 11692281) := hG 5 (by omega)
  have c6 : w.cell? ⟨5, 6, none⟩ = some (.int .i64 5830311) := hG 6 (by omega)
  have c7 : w.cell? ⟨5, 7, none⟩ = some (.int .i64 2911209) := hG 7 (by omega)
  have c8 : w.cell? ⟨5, 8, none⟩ = some (.int .i64 1454619) := hG 8 (by omega)
  have c9 : w.cell? ⟨5, 9, none⟩ = some (.int .i64 727063) := hG 9 (by omega)
  have c10 : w.cell? ⟨5, 10, none⟩ = some (.int .i64 363470) := hG 10 (by omega)
  have c11 : w.cell? ⟨5, 11, none⟩ = some (.int .i64 181719) := hG 11 (by omega)
  have c12 : w.cell? ⟨5, 12, none⟩ = some (.int .i64 90856) := hG 12 (by omega)
  have c13 : w.cell? ⟨5, 13, none⟩ = some (.int .i64 45427) := hG 13 (by omega)
  have c14 : w.cell? ⟨5, 14, none⟩ = some (.int .i64 22713) := hG 14 (by omega)
  clear hG
  go_enter Tryz.func202, Tryz.ntmps202
  go_wp2_with fail
  refine (within_yes _ _ _ (by omega) (by omega) _).mono ?_
  rintro e w1 ⟨rfl, rfl⟩
  go_wp2_with fail
  refine (within_yes _ _ _ h1 h2 _).mono ?_
  rintro e w1 ⟨rfl, rfl⟩
  go_wp2_with fail
  have IX := hide index_gro
  have eV : (.agg #[.int .i64 444758425, .int .i64 203159592, .int .i64 97181937, .int .i64 47538611, .int .i64 23511884, .int .i64 11692281, .int .i64 5830311, .int .i64 2911209, .int .i64 1454619, .int .i64 727063, .int .i64 363470, .int .i64 181719, .int .i64 90856, .int .i64 45427, .int .i64 22713] : Value) = groV := rfl
  rw [eV]
  clear eV
  clear c0 c1 c2 c3 c4 c5 c6 c7 c8 c9 c10 c11 c12 c13 c14
  generalize groV = V at *
  have HB := hide (pw_most f)
  have HN := hide (powN_ge n f hn)
  go_loop [6, 18] (fun x i => ∃ k : Nat, i = .int .i64 k ∧ x = .int .i64 (pw f k) ∧ k ≤ 15) (fun _ i => 15 - (intOf i).toNat)
  case atStart => exact ⟨0, rfl, rfl, by omega⟩
  case round =>
    obtain ⟨k, rfl, rfl, hk⟩ := hrel
    by_cases hk' : k = 15
    · subst hk'
      have x1 := (HN.out).2.2
      have HP := hide (show powN n f = pw f 15 / 2 ^ (30 - n) from rfl)
      rw [HP.out] at x1
      generalize pw f 15 = x at *
      go_wp2_with fail
      go_ret2
      exact ⟨by rw [HP.out]; rfl, rfl⟩
    · have ix := IX.out k (by omega) w1
      obtain ⟨x1, x2⟩ := HB.out k hk
      obtain ⟨r1, r2⟩ := groAt_bd k (by omega)
      obtain ⟨m1, m2⟩ := up_bd _ _ x1 x2 r1 r2
      obtain ⟨y1, y2⟩ := HB.out (k + 1) (by omega)
      have b := and_low1 (f / 2 ^ (14 - k))
      by_cases hb : powBit f k = 1
      · have e := hide (show pw f (k + 1) = pw f k + pw f k * groAt k / 1073741824 by show (if powBit f k = 1 then _ else _) = _; rw [if_pos hb]; rfl)
        rw [e.out] at y1 y2
        rw [show f / 2 ^ (14 - k) % 2 = powBit f k from rfl, hb] at b
        have E : pw f (k + 1) = pw f k + pw f k * groAt k / 1073741824 := e.out
        have E' := hide E
        clear E e hb IX HN HB
        generalize pw f k = x at *
        generalize groAt k = r at *
        go_wp2_with fail
        go_round
        case rel => exact ⟨k + 1, by go_num, by rw [E'.out], by omega⟩
        case measure => simp [intOf]; omega
      · have e := hide (show pw f (k + 1) = pw f k by show (if powBit f k = 1 then _ else _) = _; rw [if_neg hb])
        have hb0 : powBit f k = 0 := by
          unfold powBit at *
          omega
        rw [show f / 2 ^ (14 - k) % 2 = powBit f k from rfl, hb0] at b
        clear hb hb0 IX HN HB y1 y2
        generalize pw f k = x at *
        generalize groAt k = r at *
        go_wp2_with fail
        go_round
        case rel => exact ⟨k + 1, by go_num, by rw [e.out], by omega⟩
        case measure => simp [intOf]; omega
end Go.Proofs.YtjepkgdejkifcaaGreatDoor

/- GaiA -/
namespace Go.Proofs.YtjepkgdejkifcaaGreatDoor
open Go.RowKit
set_option linter.unusedVariables false
set_option linter.unusedSimpArgs false
set_option maxHeartbeats 1000000
theorem gaiLevel_any (n : Int) (w : World) (hG : Grows w) : Calls Tryz.prog 141 #[.int .i64 n] w fun e w' => e = .returned (.tuple #[.int .i64 (glV n), .int .i64 (glE n)]) ∧ w' = w := by
  by_cases h : 0 ≤ n ∧ n ≤ 31
  · obtain ⟨k, rfl⟩ : ∃ k : Nat, n = (k : Int) := ⟨n.toNat, by omega⟩
    have hk : k ≤ 31 := by omega
    rw [(glV_nat k hk).1, (glV_nat k hk).2]
    have P := hide (pow_yes (3 + 3 * k / 8) ((3 * k % 8 * 4096 : Nat) : Int) (by omega) (by omega) (by omega) w hG)
    rw [gsz_pow k (by omega)] at P
    have e1 : (3 * (k : Int)).tdiv 8 = ((3 * k / 8 : Nat) : Int) := by rw [Int.tdiv_eq_ediv_of_nonneg (by omega)]; omega
    have e2 : (3 * (k : Int)) / 8 = ((3 * k / 8 : Nat) : Int) := by omega
    have e3 : (3 * (k : Int)).tmod 8 = ((3 * k % 8 : Nat) : Int) := by rw [Int.tmod_eq_emod_of_nonneg (by omega)]; omega
    have e4 : (3 * (k : Int)) % 8 = ((3 * k % 8 : Nat) : Int) := by omega
    rw [show ((3 + 3 * k / 8 : Nat) : Int) = 3 + ((3 * k / 8 : Nat) : Int) by omega, show ((3 * k % 8 * 4096 : Nat) : Int) = ((3 * k % 8 : Nat) : Int) * 4096 by omega] at P
    have b1 : 3 * k / 8 ≤ 11 := by omega
    have b2 : 3 * k % 8 ≤ 7 := by omega
    generalize 3 * k / 8 = q at *
    generalize 3 * k % 8 = r at *
    generalize gszN k = z at *
    have c1 : (q : Int) ≤ 11 := by omega
    have c2 : (r : Int) ≤ 7 := by omega
    have c3 : (k : Int) ≤ 31 := by omega
    clear hG h b1 b2
    go_enter Tryz.func141, Tryz.ntmps141
    go_wp2_with fail
    refine P.out.mono ?_
    rintro e w1 ⟨rfl, rfl⟩
    clear P
    go_wp2_with fail
    go_ret2
    exact ⟨rfl, rfl⟩
  · rw [show glV n = 0 from if_neg h, show glE n = 2 from if_neg h]
    clear hG
    by_cases h1 : n < 0
    · clear h
      go_enter Tryz.func141, Tryz.ntmps141
      go_wp2_with fail
      go_ret2
      exact ⟨rfl, rfl⟩
    · have h2 : 32 ≤ n := by omega
      clear h
      go_enter Tryz.func141, Tryz.ntmps141
      go_wp2_with fail
      go_ret2
      exact ⟨rfl, rfl⟩
end Go.Proofs.YtjepkgdejkifcaaGreatDoor

/- BytL -/
namespace Go.Proofs.YtjepkgdejkifcaaGreatDoor
open Go.RowKit
set_option linter.unusedVariables false
set_option linter.unusedSimpArgs false
set_option maxHeartbeats 1000000
def Byts (w : World) (v : Value) (l : List Int) : Prop :=
  ∃ (ad : Option Addr) (c : Nat), v = .slice ad l.length c ∧ l.length ≤ c ∧ (0 < l.length → ∃ a, ad = some a ∧ ∀ i, i < l.length → w.cell? (a.add i) = some (.int .u8 (nth l i)))
def arrB (l : List Int) : Array Value := (l.map (Value.int .u8)).toArray
theorem arrB_get (l : List Int) (i : Nat) (h : i < l.length) : (arrB l)[i]? = some (.int .u8 (nth l i)) := by
  simp [arrB, nth, List.getD, h]
theorem arrB_set (l : List Int) (k : Nat) (v : Int) : (arrB l).setIfInBounds k (.int .u8 v) = arrB (l.set k v) := by
  simp [arrB, List.map_set]
theorem infoU8 : (Tryz.prog.info? 5).map (fun i => (i.zero, i.size, i.bytes)) = some (some (.int .u8 0), 1, 1) := by kernel_rfl
theorem made_arrB (n : Nat) : madeCells #[.int .u8 0] n = arrB (List.replicate n 0) := by
  unfold arrB madeCells
  apply Array.ext
  · simp
  · intro i h1 h2
    simp [Nat.mod_one]
theorem make_byt (z : Int) (h0 : 0 ≤ z) (h1 : z ≤ 35184372088832) (u : World) :
    (Instr.makeSlice 26 (.int .i64 z) (.int .i64 z)).run Tryz.prog u = .ok (.slice (some ⟨u.heap.size, 0, none⟩) z.toNat z.toNat) (u.alloc (.cells (arrB (List.replicate z.toNat 0)) 5)) := by
  obtain ⟨i0, hi, hz0, hz1, hz2⟩ := info_parts infoU8
  have h := run_make (P := Tryz.prog) u 26 5 i0 (.int .u8 0) Tryz.underlying26 hi hz0 .i64 .i64 z z h0 (Int.le_refl _) (by rw [hz2]; omega) (by omega)
  rw [← made_arrB]
  simpa [hz1, Value.cells] using h
theorem Byts_keep {w w' : World} {v : Value} {l : List Int} (h : Byts w v l) (g : w.grownBy w' none) : Byts w' v l := by
  obtain ⟨ad, c, rfl, hc, hcell⟩ := h
  refine ⟨ad, c, rfl, hc, fun h => ?_⟩
  obtain ⟨a, rfl, hv⟩ := hcell h
  exact ⟨a, rfl, fun i hi => grown_keep g (hv i hi)⟩
theorem Byts_of_owns {w : World} {base : Nat} {v : Value} {l : List Int} (h : w.ownsRow base 5 1 v l.length (l.map (Value.int .u8))) : Byts w v l := by
  obtain ⟨h1, h2⟩ := h
  rcases h2 with ⟨h2, h3⟩ | ⟨g, cap, cur, h2, _, h4, h5, _, h7, h8⟩
  · exact ⟨none, 0, by rw [h2, h3], by omega, fun h => by omega⟩
  · refine ⟨some ⟨g, 0, none⟩, cap, h2, h5, fun _ => ⟨_, rfl, fun i hi => ?_⟩⟩
    have e : (cur.toList.take (l.length * 1))[i]? = (l.map (Value.int .u8))[i]? := by rw [h8]
    rw [List.getElem?_take, if_pos (by omega), Array.getElem?_toList] at e
    have ea : (⟨g, 0, none⟩ : Addr).add i = ⟨g, i, none⟩ := by unfold Addr.add; split <;> simp_all
    rw [ea, cell_of_heap h4, e]
    simp [nth, List.getD, hi]
def OwnB (base : Nat) (w : World) (v : Value) (l : List Int) : Prop := w.ownsRow base 5 1 v l.length (l.map (Value.int .u8))
theorem OwnB.byts {base : Nat} {w : World} {v : Value} {l : List Int} (h : OwnB base w v l) : Byts w v l := Byts_of_owns h
theorem OwnB.keep {base : Nat} {w w' : World} {v : Value} {l : List Int} (h : OwnB base w v l) (g : w.grownBy w' none) : OwnB base w' v l :=
  h.kept g (by rcases v.ownBlock with _ | b <;> simp)
theorem OwnB.keepBut {base : Nat} {w w' : World} {v : Value} {l : List Int} {b : Nat} {cs : Array Value} {t : TypeId} {f : Nat × Nat} (h : OwnB base w v l) (g : w.grownBy w' (some b)) (hb : w.heap[b]? = some (.cells cs t f)) (ht : t ≠ 5) : OwnB base w' v l := by
  refine h.kept g ?_
  rcases h.2 with ⟨rfl, _⟩ | ⟨g', cap, cur, rfl, _, hg, _⟩
  · exact .inl rfl
  · right
    intro e
    simp [Value.ownBlock] at e
    subst e
    rw [hg] at hb
    simp at hb
    exact ht hb.2.1.symm
theorem OwnB.base {b b' : Nat} {w : World} {v : Value} {l : List Int} (h : OwnB b w v l) (hb : b' ≤ b) : OwnB b' w v l := by
  refine ⟨h.1, ?_⟩
  rcases h.2 with h | ⟨g, cap, cur, e, h1, h2⟩
  · exact .inl h
  · exact .inr ⟨g, cap, cur, e, by omega, h2⟩
theorem OwnB_nil (b : Nat) (w : World) : OwnB b w (.slice none 0 0) [] := World.ownsRow_nil _ _ _ _
theorem byts_some {W : World} {a : Addr} {n c : Nat} {l : List Int} (h : Byts W (.slice (some a) n c) l) : n = l.length ∧ n ≤ c ∧ ∀ i, i < l.length → W.cell? (a.add i) = some (.int .u8 (nth l i)) := by
  obtain ⟨ad, c', e, h1, h2⟩ := h
  simp only [Value.slice.injEq] at e
  obtain ⟨rfl, rfl, rfl⟩ := e
  refine ⟨rfl, h1, fun i hi => ?_⟩
  obtain ⟨a', e', h3⟩ := h2 (by omega)
  cases e'
  exact h3 i hi
theorem byts_none {W : World} {l : List Int} (h : Byts W (.slice none 0 0) l) : l = [] := by
  obtain ⟨ad, c, e, _, _⟩ := h
  simp only [Value.slice.injEq] at e
  exact List.length_eq_zero_iff.1 e.2.1.symm
theorem step_byts {y : Nat → Option Bool} {o : Oper} {a : Act} {w : World} {K : Act → World → Prop} {Q : Exit → Act → World → Prop} {E : Prop} (hg : o.guard = none) (s x : Operand)
    (hop : o.op = Op.call { callee := Callee.builtin Builtin.append, args := #[s, x], argTypes := #[26, 26] }) (hs : a.eval s = .slice none 0 0) (v : Value) (l : List Int) (hx : a.eval x = v) (h : Byts w v l) (hsh : Shp v l) (hl : l.length * 1 ≤ 140737488355328)
    (hK : ∀ v' w', OwnB w.heap.size w' v' l → w.grownBy w' none → K (a.put o.dst v') w') : if Region.wanted o y = true then Oper.wp Tryz.prog o a w K Q else E := by
  obtain ⟨i0, hi, hz0, hz1, hz2⟩ := info_parts infoU8
  have hw : Region.wanted o y = true := by simp [Region.wanted, hg]
  rw [if_pos hw]
  rcases hsh with rfl | ⟨ad, c, rfl⟩
  · obtain rfl := byts_none h
    have hrun := run_append_owned_none (P := Tryz.prog) (w := w) w.heap.size 26 o.type 5 i0 1 Tryz.underlying26 hi (.slice none 0 0) 0 [] (World.ownsRow_nil _ _ _ _)
    unfold Oper.wp
    simp [execOp, hop, resolve, invoke, builtin, hs, hx, hrun, Result.andThen]
    exact hK _ _ (OwnB_nil _ _) (grown_refl _ _)
  · obtain ⟨_, hc, hcell⟩ := byts_some h
    refine wp_append_own w s x 26 hop w.heap.size 5 i0 (.int .u8 0) 1 1 Tryz.underlying26 hi hz0 hz1 hz2 rfl (by decide) _ 0 [] hs (World.ownsRow_nil _ _ _ _) ad l.length c (l.map (Value.int .u8)) hx (by simp) (fun j u hu => ?_) (fun u hu => ?_) (by unfold maxLen; omega) (by omega) (Nat.le_refl _) (fun v' w' h2 h3 _ => hK v' w' ?_ h3)
    · have hj : j < l.length := by
        by_cases hj : j < l.length
        · exact hj
        · rw [List.getElem?_eq_none (by simp; omega)] at hu; cases hu
      rw [hcell j hj]
      simpa [nth, List.getD, hj] using hu
    · obtain ⟨x, _, rfl⟩ := List.mem_map.1 hu
      rfl
    · unfold OwnB; simpa using h2
theorem wpList_append_bothB {ops : Array Oper} {rest : List Oper} {o : Oper} {a : Act} {w : World} {Q : Exit → Act → World → Prop} (hgd : Region.wanted o (yielded ops a.tmps) = true) (s x : Operand)
    (hop : o.op = Op.call { callee := Callee.builtin Builtin.append, args := #[s, x], argTypes := #[26, 26] }) (base : Nat) (va vb : Value) (A B : List Int) (hs : a.eval s = va) (hx : a.eval x = vb) (ha : OwnB base w va A) (hb : Byts w vb B) (hsh : Shp vb B)
    (hl : (A.length + B.length) * 1 ≤ 140737488355328) (hbase : base ≤ w.heap.size)
    (h : ∀ v' w', OwnB base w' v' (A ++ B) → w.grownBy w' va.ownBlock → wpList Tryz.prog ops Q rest (a.put o.dst v') w') : wpList Tryz.prog ops Q (o :: rest) a w := by
  obtain ⟨i0, hi, hz0, hz1, hz2⟩ := info_parts infoU8
  have key : ∀ K : Act → World → Prop, (∀ v' w', OwnB base w' v' (A ++ B) → w.grownBy w' va.ownBlock → K (a.put o.dst v') w') → Oper.wp Tryz.prog o a w K Q := by
    intro K hK
    rcases hsh with rfl | ⟨ad, c, rfl⟩
    · obtain rfl := byts_none hb
      have hrun := run_append_owned_none (P := Tryz.prog) (w := w) base 26 o.type 5 i0 1 Tryz.underlying26 hi va _ _ ha
      unfold Oper.wp
      simp [execOp, hop, resolve, invoke, builtin, hs, hx, hrun, Result.andThen]
      exact hK _ _ (by rw [List.append_nil]; exact ha) (grown_refl _ _)
    · obtain ⟨_, hc, hcell⟩ := byts_some hb
      refine wp_append_own w s x 26 hop base 5 i0 (.int .u8 0) 1 1 Tryz.underlying26 hi hz0 hz1 hz2 rfl (by decide) va A.length _ hs ha ad B.length c (B.map (Value.int .u8)) hx (by simp) (fun j u hu => ?_) (fun u hu => ?_) (by unfold maxLen; omega) (by omega) hbase (fun v' w' h2 h3 _ => hK v' w' ?_ h3)
      · have hj : j < B.length := by
          by_cases hj : j < B.length
          · exact hj
          · rw [List.getElem?_eq_none (by simp; omega)] at hu; cases hu
        rw [hcell j hj]
        simpa [nth, List.getD, hj] using hu
      · obtain ⟨x, _, rfl⟩ := List.mem_map.1 hu
        rfl
      · unfold OwnB; simpa using h2
  refine wpList_step fun K hK => ?_
  rw [if_pos hgd]
  exact key K fun v' w' h1 h2 => hK _ _ (h v' w' h1 h2)
theorem OwnB.lt {base : Nat} {w : World} {v : Value} {l : List Int} (h : OwnB base w v l) (g : Nat) (hg : v.ownBlock = some g) : base ≤ g ∧ g < w.heap.size := by
  rcases h.2 with ⟨rfl, _⟩ | ⟨g', cap, cur, rfl, h1, h2, _⟩
  · cases hg
  · simp [Value.ownBlock] at hg
    subst hg
    exact ⟨h1, lt_of_some h2⟩
theorem OwnB.shp {base : Nat} {w : World} {v : Value} {l : List Int} (h : OwnB base w v l) : Shp v l := by
  rcases h.2 with ⟨rfl, _⟩ | ⟨g', cap, cur, rfl, _⟩
  · exact .inl rfl
  · exact .inr ⟨_, cap, rfl⟩
theorem byts_lit (u : World) (z : Int) : Byts (u.alloc (.cells #[.int .u8 z] 5)) (.slice (some ⟨u.heap.size, 0, none⟩) 1 1) [z] := by
  refine ⟨some ⟨u.heap.size, 0, none⟩, 1, rfl, Nat.le_refl _, fun _ => ⟨_, rfl, fun i hi => ?_⟩⟩
  rw [Addr.add_mid, Nat.zero_add, cell_of_heap (heap_new u _)]
  match i, hi with
  | 0, _ => rfl
theorem OwnB.form {base : Nat} {w : World} {v : Value} {l : List Int} (h : OwnB base w v l) (hl : 0 < l.length) : ∃ g cap, v = .slice (some ⟨g, 0, none⟩) l.length cap ∧ base ≤ g ∧ g < w.heap.size ∧ l.length ≤ cap := by
  rcases h.2 with ⟨_, h0⟩ | ⟨g, cap, cur, hv, hb, hg, hn, _⟩
  · omega
  · exact ⟨g, cap, hv, hb, lt_of_some hg, hn⟩
theorem OwnB.cell {base : Nat} {w : World} {g cap n : Nat} {l : List Int} (h : OwnB base w (.slice (some ⟨g, 0, none⟩) n cap) l) (hn : n = l.length) (j : Nat) (hj : j < l.length) : w.cell? ⟨g, j, none⟩ = some (.int .u8 (nth l j)) := by
  subst hn
  have := World.ownsRow.cellAt h j (by omega)
  rw [this]
  simp [nth, List.getD, hj]
theorem OwnB.free {base : Nat} {w : World} {g cap n : Nat} {l : List Int} (h : OwnB base w (.slice (some ⟨g, 0, none⟩) n cap) l) (hn : n = l.length) (j : Nat) : w.frozen? ⟨g, j, none⟩ = false := by
  subst hn
  exact World.ownsRow.frozenAt h j
theorem OwnB.set {base : Nat} {w : World} {g cap n : Nat} {l : List Int} (h : OwnB base w (.slice (some ⟨g, 0, none⟩) n cap) l) (hn : n = l.length) (j : Nat) (z : Int) : OwnB base (w.setCell ⟨g, j, none⟩ (.int .u8 z)) (.slice (some ⟨g, 0, none⟩) n cap) (l.set j z) ∧ w.grownBy (w.setCell ⟨g, j, none⟩ (.int .u8 z)) (some g) := by
  subst hn
  have := World.ownsRow.stored h j (.int .u8 z)
  refine ⟨?_, this.2⟩
  unfold OwnB
  rw [List.length_set, List.map_set]
  exact this.1
theorem OwnB.keepLt {base : Nat} {w w' : World} {v : Value} {l : List Int} {b : Nat} (h : OwnB base w v l) (g : w.grownBy w' (some b)) (hb : b < base) : OwnB base w' v l := by
  refine h.kept g ?_
  rcases e : v.ownBlock with _ | c
  · exact .inl rfl
  · right
    intro e'
    have := (h.lt c e).1
    cases e'
    omega
theorem OwnB.keepNe {base : Nat} {w w' : World} {g n cap : Nat} {l : List Int} {b : Nat} (h : OwnB base w (.slice (some ⟨g, 0, none⟩) n cap) l) (gr : w.grownBy w' (some b)) (hb : g ≠ b) : OwnB base w' (.slice (some ⟨g, 0, none⟩) n cap) l :=
  h.kept gr (.inr (by simpa [Value.ownBlock] using hb))
end Go.Proofs.YtjepkgdejkifcaaGreatDoor

/- PkW -/
namespace Go.Proofs.YtjepkgdejkifcaaGreatDoor
open Go.RowKit
set_option linter.unusedVariables false
set_option linter.unusedSimpArgs false
theorem zPkt : (Tryz.prog.info? 38).bind (·.zero) = some (.agg (arrI (zeros 25))) := by kernel_rfl
theorem size25 : (Tryz.prog.info? 38).map (·.size) = some 25 := by kernel_rfl
theorem tab_zeros (n : Nat) : tab n (fun _ => 0) = zeros n := by
  refine (tab_ext (zeros_len n) (fun i hi => ?_)).symm
  simp [zeros, nth, List.getD, hi]
def AnsP (w : World) (v : Value) (e : Ending) (w' : World) : Prop := e = .returned v ∧ w.grownBy w' none
def UnP (w : World) (b : List Int) (e : Ending) (w' : World) : Prop := e = .returned (.tuple #[.agg (arrI (unpL b)), .int .i64 (unE b)]) ∧ w.grownBy w' none
theorem unpL_no (b : List Int) (h : unE b ≠ 0) : unpL b = zeros 25 := by unfold unpL; rw [if_neg h, tab_zeros]
def PkP (w : World) (l : List Int) (e : Ending) (w' : World) : Prop := ∃ v', e = .returned (.tuple #[v', .int .i64 (pakE l)]) ∧ OwnB w.heap.size w' v' (pkR l) ∧ w.grownBy w' none
def PPk (f : Nat) (w : World) : Prop := ∀ l : List Int, l.length = 25 → In64 l → ∀ wr, w.grownBy wr none → Calls Tryz.prog f #[.agg (arrI l)] wr (PkP wr l)
theorem zeros_64 (n : Nat) : In64 (zeros n) := fun i => by rw [zeros_nth]; omega
theorem zeros_good : gudP (zeros 25) = true := by decide
theorem OwnB.plain {base : Nat} {w : World} {v : Value} {b : List Int} (h : OwnB base w v b) : v = .slice none 0 0 ∨ ∃ a n c, v = .slice (some a) n c := by
  rcases h.2 with ⟨rfl, _⟩ | ⟨g', cap, cur, rfl, _⟩
  · exact .inl rfl
  · exact .inr ⟨_, _, _, rfl⟩
theorem pkR_yes {l : List Int} (h : gudP l = true) : pkR l = pkA l ∧ pakE l = 0 := ⟨if_pos h, if_pos h⟩
end Go.Proofs.YtjepkgdejkifcaaGreatDoor

/- PlyS -/
namespace Go.Proofs.YtjepkgdejkifcaaGreatDoor
open Go.RowKit
set_option linter.unusedVariables false
set_option linter.unusedSimpArgs false
theorem intsV_partP (u : List Int) (o n : Nat) (h : o + n ≤ u.length) : ((intsV u).drop o).take n = intsV (prt u o n) := by
  have := mixC_part u [] o n h
  unfold mixC at this
  rwa [List.append_nil] at this
theorem intsV_getP (u : List Int) (i : Nat) (h : i < u.length) : (intsV u)[i]? = some (.int .i64 (nth u i)) := by
  have := mixC_get u [] i h
  unfold mixC at this
  rwa [List.append_nil] at this
theorem BlkM.cellS {w : World} {b : Nat} {l : List Int} {s : Bool} (h : BlkM w b l s) (hl : l.length = 101) : w.cell? ⟨b, 101, none⟩ = some (.bool s) := by
  rw [BlkV.cell h]
  unfold memC mixC
  rw [List.getElem?_append_right (by rw [intsV_len, hl]; omega), intsV_len, hl]
  rfl
theorem BlkM.setS {w : World} {b : Nat} {l : List Int} {s : Bool} (h : BlkM w b l s) (hl : l.length = 101) (t : Bool) : BlkM (w.setCell ⟨b, 101, none⟩ (.bool t)) b l t := by
  have := BlkV.set h 101 (.bool t)
  have e : (memC l s).set 101 (.bool t) = memC l t := by
    unfold memC mixC
    rw [List.set_append_right _ _ (by rw [intsV_len, hl]; omega), intsV_len, hl]
    rfl
  rw [e] at this
  exact this
def PlQ (w : World) (l : List Int) (s : Bool) (p : List Int) (wr : World) : Prop := BlkM wr w.heap.size l s ∧ BlkV wr (w.heap.size + 1) 38 (intsV p) ∧ BlkM wr (w.heap.size + 1 + 1) (zeros 101) false ∧ w.grownBy wr none
theorem PlQ.new (w : World) (l : List Int) (s : Bool) (p : List Int) : PlQ w l s p (((w.alloc (.cells (memC l s).toArray 25)).alloc (.cells (arrI p) 38)).alloc (.cells (memC (zeros 101) false).toArray 25)) := by
  refine ⟨((BlkM.new w l s).keep (grown_alloc _ _ none)).keep (grown_alloc _ _ none), ?_, ?_, grown_none (grown_none (grown_alloc _ _ none) (grown_alloc _ _ none)) (grown_alloc _ _ none)⟩
  · have := (BlkV.new (w.alloc (.cells (memC l s).toArray 25)) 38 (intsV p)).keep (grown_alloc _ (.cells (memC (zeros 101) false).toArray 25) none)
    rw [intsV_arr] at this
    simpa using this
  · have := BlkM.new ((w.alloc (.cells (memC l s).toArray 25)).alloc (.cells (arrI p) 38)) (zeros 101) false
    simpa using this
theorem PlQ.keep {w : World} {l : List Int} {s : Bool} {p : List Int} {wr wr' : World} (h : PlQ w l s p wr) (g : wr.grownBy wr' none) : PlQ w l s p wr' := ⟨h.1.keep g, h.2.1.keep g, h.2.2.1.keep g, grown_none h.2.2.2 g⟩
theorem PlQ.own {w : World} {l : List Int} {s : Bool} {p : List Int} {wr wr' : World} {r : Option Nat} (h : PlQ w l s p wr) (g : wr.grownBy wr' r) (hr : ∀ x, r = some x → w.heap.size + 1 + 1 + 1 ≤ x) : PlQ w l s p wr' := by
  rcases r with _ | x
  · exact h.keep g
  · have := hr x rfl
    exact ⟨h.1.keepBut g (by omega), h.2.1.keepBut g (by omega), h.2.2.1.keepBut g (by omega), grown_own h.2.2.2 g (by omega)⟩
theorem PlQ.mem {w : World} {l m : List Int} {s t : Bool} {p : List Int} {wr wr' : World} (h : PlQ w l s p wr) (hb : BlkM wr' w.heap.size m t) (g : wr.grownBy wr' (some w.heap.size)) : PlQ w m t p wr' := ⟨hb, h.2.1.keepBut g (by omega), h.2.2.1.keepBut g (by omega), grown_own h.2.2.2 g (Nat.le_refl _)⟩
theorem PlQ.all {w : World} {l m : List Int} {s t : Bool} {p : List Int} {wr : World} (h : PlQ w l s p wr) (hl : l.length = 101) (hm : m.length = 101) : PlQ w m t p (putV wr w.heap.size 0 (memC m t)) ∧ wr.grownBy (putV wr w.heap.size 0 (memC m t)) (some w.heap.size) := by
  have := h.1.putAll (m := m) (t := t) hl hm
  exact ⟨h.mem this.1 this.2, this.2⟩
theorem PlQ.put {w : World} {l : List Int} {s : Bool} {p : List Int} {wr : World} (h : PlQ w l s p wr) (o : Nat) (M : List Int) (hl : o + M.length ≤ l.length) : PlQ w (ovr l o M) s p (putV wr w.heap.size o (intsV M)) ∧ wr.grownBy (putV wr w.heap.size o (intsV M)) (some w.heap.size) := by
  have := h.1.put o M hl
  exact ⟨h.mem this.1 this.2, this.2⟩
theorem PlQ.set {w : World} {l : List Int} {s : Bool} {p : List Int} {wr : World} (h : PlQ w l s p wr) (k : Nat) (z : Int) (hk : k < l.length) : PlQ w (l.set k z) s p (wr.setCell ⟨w.heap.size, k, none⟩ (.int .i64 z)) := h.mem (h.1.set k z hk) (grown_setCell wr ⟨w.heap.size, k, none⟩ _)
theorem PlQ.setS {w : World} {l : List Int} {s : Bool} {p : List Int} {wr : World} (h : PlQ w l s p wr) (hl : l.length = 101) (t : Bool) : PlQ w l t p (wr.setCell ⟨w.heap.size, 101, none⟩ (.bool t)) := h.mem (h.1.setS hl t) (grown_setCell wr ⟨w.heap.size, 101, none⟩ _)
theorem PlQ.fin {w : World} {l : List Int} {s : Bool} {p : List Int} {wr : World} (h : PlQ w l s p wr) (m : List Int) (t : Bool) (hm : m.length = 101) : BlkM (putV wr (w.heap.size + 1 + 1) 0 (memC m t)) (w.heap.size + 1 + 1) m t ∧ w.grownBy (putV wr (w.heap.size + 1 + 1) 0 (memC m t)) none ∧ wr.grownBy (putV wr (w.heap.size + 1 + 1) 0 (memC m t)) (some (w.heap.size + 1 + 1)) := by
  have := h.2.2.1.putAll (m := m) (t := t) (zeros_len 101) hm
  exact ⟨this.1, grown_own h.2.2.2 this.2 (by omega), this.2⟩
theorem PlQ.num {w : World} {l : List Int} {s : Bool} {p : List Int} {wr : World} (h : PlQ w l s p wr) (i : Nat) (hi : i < p.length) : wr.cell? ⟨w.heap.size + 1, i, none⟩ = some (.int .i64 (nth p i)) := (h.2.1.cell i).trans (intsV_getP p i hi)
end Go.Proofs.YtjepkgdejkifcaaGreatDoor
