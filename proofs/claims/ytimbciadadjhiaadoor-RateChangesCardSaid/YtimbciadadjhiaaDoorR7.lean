import Derived.Test.YtimbciadadjhiaaDoorR6
import Derived.Test.YtimbciadadjhiaaDoorRows
import Derived.ProofKit
import Derived.LaidMore
import Derived.OpenShut
import Derived.ChangeOld
import Derived.Below
import Derived.Carry
import Derived.Deep.Slices
import Derived.Stop.Joined
set_option linter.unusedVariables false
set_option linter.unusedSimpArgs false
set_option linter.unusedSectionVars false
namespace Go.Proofs.YtimbciadadjhiaaDoor
open Go Go.ChangeShapes Go.WideShapes Go.ChangeAt Go.RowKit Go.Deep
set_option linter.unusedVariables false
set_option maxRecDepth 100000

theorem own : ownKnob Tryd.prog.godebug = none := by kernel_rfl
theorem laidOut : laidOutB Tryd.prog = true := by kernel_rfl
theorem gOne : Tryd.prog.globalNamed "cocket/rate.one" = some 0 := by kernel_rfl
theorem tOne : (Tryd.prog.globals[0]?).map (·.type) = some 47 := by kernel_rfl
theorem cells39 : Tryd.prog.cellsOf 39 = 4 := by kernel_rfl
theorem cells3 : Tryd.prog.cellsOf 3 = 1 := by kernel_rfl
theorem cells47 : Tryd.prog.cellsOf 47 = 2 := by kernel_rfl
theorem ix22 (r o n c : Nat) (k : IntKind) (i : Int) : AM.aIndexAt Tryd.prog 22 (.slice (some ⟨r, o, none⟩) n c) (.int k i) = if 0 ≤ i ∧ i < (n : Int) then some (.pointer (some ⟨r, o + i.toNat * 4, none⟩)) else none := by kernel_rfl
theorem ix23 (r o n c : Nat) (k : IntKind) (i : Int) : AM.aIndexAt Tryd.prog 23 (.slice (some ⟨r, o, none⟩) n c) (.int k i) = if 0 ≤ i ∧ i < (n : Int) then some (.pointer (some ⟨r, o + i.toNat * 1, none⟩)) else none := by kernel_rfl

section
variable {H : Type} {enc : TypeId × Value → H} {W : World} {fuel : Nat} {x : DataW H × List MemPlace}

/-- A struct of two integers, cell by cell. -/
theorem trod_pair {spare : Nat → Bool} {held : Bool} {cs : List Value} (h : DataW.trod enc Tryd.prog W 0 spare held fuel 47 cs = some x) : ∃ a b, cs = [.int .i64 a, .int .i64 b] ∧ x.1 = .agg [.lit (.int .i64 a), .lit (.int .i64 b)] := by
  obtain ⟨xs, n', _, rfl, hcl, hxl, hf⟩ := DataW.trod_struct Tryd.underlying47 h
  have hxl : xs.length = 2 := hxl
  rw [cells47] at hcl
  match cs, hcl with
  | [c0, c1], _ =>
    match xs, hxl with
    | [y0, y1], _ =>
      have fld : ∀ (k : Nat) (f : Field) (y : DataW H × List MemPlace), f.type = 3 → f.offset = k → k < 2 → DataW.trod enc Tryd.prog W 0 spare held n' f.type (([c0, c1].drop f.offset).take (Tryd.prog.cellsOf f.type)) = some y →
          ∃ z : Int, [c0, c1][k]? = some (.int .i64 z) ∧ y = (.lit (.int .i64 z), []) := by
        intro k f y h1 h2 hk h3
        rw [h1, h2, cells3] at h3
        obtain ⟨z, hz, hy, _⟩ := DataW.trod_int Tryd.underlying3 h3
        refine ⟨z, ?_, hy⟩
        have := congrArg (fun l => l[0]?) hz
        simpa using this
      obtain ⟨z0, e0, rfl⟩ := fld 0 _ _ rfl rfl (by omega) (hf 0 _ rfl)
      obtain ⟨z1, e1, rfl⟩ := fld 1 _ _ rfl rfl (by omega) (hf 1 _ rfl)
      cases e0; cases e1
      exact ⟨z0, z1, rfl, rfl⟩

/-- What came in as a list of offers. -/
theorem open_offs {a : Option Addr} {len cap : Nat} (h : DataW.trod enc Tryd.prog W 0 (fun _ => true) true fuel 22 [.slice a len cap] = some x) : ∃ lc : List Off, lc.length = cap ∧ AM.Came W a len cap 4 (offs lc) := by
  rcases open_slice Tryd.underlying22 h with ⟨hcs, _⟩ | ⟨b, l, c, m, n, D, Pl, hcs, _, hl, _, hm, _, hi⟩
  · simp at hcs
    obtain ⟨rfl, rfl, rfl⟩ := hcs
    exact ⟨[], rfl, .inl ⟨rfl, rfl, rfl⟩⟩
  · simp at hcs
    obtain ⟨rfl, rfl, rfl⟩ := hcs
    have hm : m = cap := by simpa using hm
    subst hm
    rw [cells39] at hi
    have key : ∀ i, ∃ q : Off, i < m → ∀ k, k < 4 → W.cell? (b.add (i * 4 + k)) = some (q.cells.getD k undef) := fun i => by
      by_cases him : i < m
      · obtain ⟨cs', hc, ht⟩ := hi i him
        obtain ⟨_, hlen, hat⟩ := World.cells?_some hc
        obtain ⟨xs, n', _, _, _, hxl, hf⟩ := DataW.trod_struct Tryd.underlying39 ht
        have hxl : xs.length = 4 := hxl
        have fld : ∀ (k : Nat) (f : Field), f.type = 3 → f.offset = k → k < 4 → DataW.trod enc Tryd.prog W 0 (fun _ => true) true n' f.type ((cs'.drop f.offset).take (Tryd.prog.cellsOf f.type)) = xs[k]? → ∃ z : Int, cs'[k]? = some (.int .i64 z) := by
          intro k f h1 h2 hk h3
          rw [h1, h2, cells3, List.getElem?_eq_getElem (by omega)] at h3
          obtain ⟨z, hz, _⟩ := DataW.trod_int Tryd.underlying3 h3
          refine ⟨z, ?_⟩
          have := congrArg (fun l => l[0]?) hz
          simpa using this
        obtain ⟨z0, h0⟩ := fld 0 _ rfl rfl (by omega) (hf 0 _ rfl)
        obtain ⟨z1, h1⟩ := fld 1 _ rfl rfl (by omega) (hf 1 _ rfl)
        obtain ⟨z2, h2⟩ := fld 2 _ rfl rfl (by omega) (hf 2 _ rfl)
        obtain ⟨z3, h3⟩ := fld 3 _ rfl rfl (by omega) (hf 3 _ rfl)
        refine ⟨⟨z0, z1, z2, z3⟩, fun _ k hk => ?_⟩
        have := hat k hk
        rw [add_add] at this
        rw [this]
        match k, hk with
        | 0, _ => exact h0
        | 1, _ => exact h1
        | 2, _ => exact h2
        | 3, _ => exact h3
      · exact ⟨default, fun h => absurd h him⟩
    have ⟨f, hf⟩ := Classical.axiomOfChoice key
    refine ⟨(List.range m).map f, by simp, .inr ⟨b, rfl, hl, fun j hj => ?_⟩⟩
    have hlt : j / 4 < m := by omega
    have h1 := hf (j / 4) hlt (j % 4) (by omega)
    rw [show j / 4 * 4 + j % 4 = j by omega] at h1
    rw [h1]
    unfold offs
    rw [List.getD_eq_getElem?_getD (l := List.map f (List.range m)), List.getElem?_map, List.getElem?_range hlt]
    rfl

/-- What came in as a list of indices. -/
theorem open_idx {a : Option Addr} {len cap : Nat} (h : DataW.trod enc Tryd.prog W 0 (fun _ => true) true fuel 23 [.slice a len cap] = some x) : ∃ wc : List Int, wc.length = cap ∧ AM.Came W a len cap 1 (ints wc) := by
  rcases open_ints Tryd.underlying23 Tryd.underlying3 cells3 h with ⟨hcs, _⟩ | ⟨b, l, c, zs, hcs, _, hl, _, hz, _, hc, _⟩
  · simp at hcs
    obtain ⟨rfl, rfl, rfl⟩ := hcs
    exact ⟨[], rfl, .inl ⟨rfl, rfl, rfl⟩⟩
  · simp at hcs
    obtain ⟨rfl, rfl, rfl⟩ := hcs
    have hz : zs.length = cap := by simpa using hz
    exact ⟨zs, hz, .inr ⟨b, rfl, hl, fun j hj => hc j (by omega)⟩⟩
end

theorem var_block {W : World} {n : String} {g : Nat} {cs : Array Value} (hg : Tryd.prog.globalNamed n = some g) (h : W.var? Tryd.prog n = some cs) : ∃ t fz, W.heap[g]? = some (.cells cs t fz) := by
  simp only [World.var?, hg, Option.bind_some] at h
  split at h
  · rename_i c t fz hb; cases h; exact ⟨t, fz, hb⟩
  · cases h

/-- The one package variable holds 1 and 1. -/
theorem of_laid {W : World} (h : laidMetH Tryd.prog [("cocket/rate.one", Rows.laid_cocket_rate_one)] W) : ∃ t fz, W.heap[0]? = some (.cells #[.int .i64 1, .int .i64 1] t fz) := by
  rw [MakeChecks.laidMetH_plain _ _ _ (by kernel_rfl)] at h
  obtain ⟨ps, ⟨g0, t0, cs0, f0, p0, q0, hg0, ht0, hv0, hd0, _, _⟩, _, _⟩ := h
  obtain rfl := Option.some.inj (gOne.symm.trans hg0)
  obtain rfl := Option.some.inj (tOne.symm.trans ht0)
  obtain ⟨t, fz, hb⟩ := var_block hg0 hv0
  obtain ⟨a, b, hcs, hx⟩ := trod_pair hd0
  unfold Rows.laid_cocket_rate_one at hx
  simp only [DataW.agg.injEq, List.cons.injEq, DataW.lit.injEq, Lit.int.injEq, true_and, and_true] at hx
  obtain ⟨ha, hb2⟩ := hx
  subst ha; subst hb2
  refine ⟨t, fz, ?_⟩
  rw [hb]
  congr 2
  exact Array.toList_inj.1 (by rw [hcs])

open AM in
theorem slO_of {Hp : AM.Heap} {v : Value} {len cap r : Nat} {lc : List Off} (hl : lc.length = cap) (hle : len ≤ cap)
    (h : (∃ a', v = .slice a' len cap ∧ len = 0) ∨ (v = .slice (some ⟨r, 0, none⟩) len cap ∧ r < Hp.size ∧ ∀ j, j < len * 4 → Hp.read r (0 + j) 1 = some [offs lc j])) : ∃ l : List Off, SlO Hp v l r 0 := by
  refine ⟨lc.take len, ?_⟩
  have hlen : (lc.take len).length = len := by rw [List.length_take]; omega
  show Sl Tryd.prog 22 4 Hp v (lc.take len).length r 0 (offs (lc.take len))
  rw [hlen]
  rcases h with ⟨a', rfl, rfl⟩ | ⟨rfl, hr, hrd⟩
  · exact ⟨⟨_, _, rfl⟩, fun k i h0 h1 => by omega, fun j hj => by omega, fun h0 => by omega⟩
  · refine ⟨⟨_, _, rfl⟩, fun k i h0 h1 => by rw [ix22, if_pos ⟨h0, h1⟩], fun j hj => ?_, fun _ => hr⟩
    rw [hrd j hj]
    unfold offs
    rw [List.getD_eq_getElem?_getD (l := lc.take len), List.getElem?_take, if_pos (by omega), ← List.getD_eq_getElem?_getD]

open AM in
theorem slI_of {Hp : AM.Heap} {v : Value} {len cap r : Nat} {wc : List Int} (hl : wc.length = cap) (hle : len ≤ cap)
    (h : (∃ a', v = .slice a' len cap ∧ len = 0) ∨ (v = .slice (some ⟨r, 0, none⟩) len cap ∧ r < Hp.size ∧ ∀ j, j < len * 1 → Hp.read r (0 + j) 1 = some [ints wc j])) : ∃ w : List Int, SlI Hp v w r 0 := by
  refine ⟨wc.take len, ?_⟩
  have hlen : (wc.take len).length = len := by rw [List.length_take]; omega
  show Sl Tryd.prog 23 1 Hp v (wc.take len).length r 0 (ints (wc.take len))
  rw [hlen]
  rcases h with ⟨a', rfl, rfl⟩ | ⟨rfl, hr, hrd⟩
  · exact ⟨⟨_, _, rfl⟩, fun k i h0 h1 => by omega, fun j hj => by omega, fun h0 => by omega⟩
  · refine ⟨⟨_, _, rfl⟩, fun k i h0 h1 => by rw [ix23, if_pos ⟨h0, h1⟩], fun j hj => ?_, fun _ => hr⟩
    rw [hrd j hj]
    unfold ints
    rw [List.getD_eq_getElem?_getD (l := wc.take len), List.getElem?_take, if_pos (by omega), ← List.getD_eq_getElem?_getD]

theorem came_le {W : World} {a : Option Addr} {len cap sz : Nat} {c : Nat → Value} (h : AM.Came W a len cap sz c) : len ≤ cap := by
  rcases h with ⟨_, rfl, rfl⟩ | ⟨_, _, h, _⟩
  · exact Nat.le_refl _
  · exact h
theorem offs_plain (l : List Off) (j : Nat) : AM.plain (offs l j) = true := by
  unfold offs Off.cells
  have h4 : j % 4 < 4 := Nat.mod_lt _ (by omega)
  generalize j % 4 = k at h4
  match k, h4 with
  | 0, _ => rfl
  | 1, _ => rfl
  | 2, _ => rfl
  | 3, _ => rfl

open AM in
/-- THE WALK: whatever came in, the law answers true, and what was there stays. -/
theorem walk (n am : Int) {a a' : Option Addr} {len cap len' cap' : Nat} {lc : List Off} {wc : List Int} (W : World) (h1 : lc.length = cap) (c1 : Came W a len cap 4 (offs lc)) (h2 : wc.length = cap')
    (c2 : Came W a' len' cap' 1 (ints wc)) (hL : laidMetH Tryd.prog [("cocket/rate.one", Rows.laid_cocket_rate_one)] W) :
    Calls Tryd.prog 3 #[.int .i64 n, .slice a len cap, .slice a' len' cap', .int .i64 am] W fun e w' => e = .returned (.bool true) ∧ Below W.heap.size W w' := by
  obtain ⟨t, fz, hb⟩ := of_laid hL
  have i0 : Ins Tryd.prog W.heap.size (fun _ => none) emptyH W := ⟨empty_hr W, (fun r rm h => by cases h), Nat.le_refl _⟩
  have i1 := i0.add (sh := 0) (cells := [.int .i64 1, .int .i64 1]) hb (by simp) (fun j v hj => ⟨v, by
    have : (0 : Nat) + j = j := Nat.zero_add j
    rw [this, ← Array.getElem?_toList]; exact hj, .plain (by
      match j, hj with
      | 0, hj => cases hj; rfl
      | 1, hj => cases hj; rfl
      | j + 2, hj => cases hj)⟩)
  obtain ⟨m2, H2, v2, r2, i2, hm2, hk2, hv2, hs2⟩ := i1.slice (sz := 4) (by omega) (offs_plain lc) c1
  obtain ⟨m3, H3, v3, r3, i3, hm3, hk3, hv3, hs3⟩ := i2.slice (sz := 1) (by omega) (fun j => rfl) c2
  obtain ⟨l, hl⟩ := slO_of h1 (came_le c1) hs2
  obtain ⟨w, hw⟩ := slI_of h2 (came_le c2) hs3
  have hl3 := hl.keep hk3
  have hrow : (H0 t).rows.get 0 = some (row0 t) := by unfold H0; rw [Heap.add_get]; exact if_pos rfl
  have hkeep : Keep (H0 t) H3 := Keep.trans (show Keep (H0 t) H2 from hk2) hk3
  obtain ⟨H', hr⟩ := law_runs (sys_only t) n l w am v2 v3 r2 0 r3 0 H3 hl3 hw i3.low (fun H' hk => sys_known ((hkeep.trans hk).row 0 _ (by unfold H0; rw [Heap.add_size]; omega) hrow).1)
  refine calls_of_runs (S := sys t) okP mixP (sys_ok t) hr i3.hr ?_ (args' := [.int .i64 n, .slice a len cap, .slice a' len' cap', .int .i64 am]) ?_ rfl
  · intro g hg
    have hg0 : g = 0 := by have hg : g < 1 := hg; omega
    subst hg0
    exact ⟨_, hm3 _ _ (hm2 _ _ (Map.put_same _ _ _)), rfl, rfl⟩
  · exact .cons (.plain rfl) (.cons (hv2.mono hm3) (.cons hv3 (.cons (.plain rfl) .nil)))
end Go.Proofs.YtimbciadadjhiaaDoor
