/- Sorting, at one type of elements: loads, stores, comparisons. -/
import Derived.Test.YtfekdjpfjogklaaR0s
import Derived.Test.YtfekdjpfjogklaaGj
import Derived.Sort.Defs
set_option linter.unusedVariables false
set_option linter.unusedSimpArgs false
set_option linter.unusedSectionVars false

namespace Go.Proofs.Ytfekdjpfjogklaa
set_option linter.unusedSectionVars false
open Go Go.AM
set_option maxRecDepth 10000
set_option linter.unusedSimpArgs false
set_option linter.unusedVariables false
theorem ixI (r n c : Nat) (k : IntKind) (i : Int) : aIndexAt Try.prog 25 (.slice (some ⟨r, 0, none⟩) n c) (.int k i) = if 0 ≤ i ∧ i < (n : Int) then some (.pointer (some ⟨r, 0 + i.toNat * 1, none⟩)) else none := by kernel_rfl
theorem ldI (H : Heap) (r o : Nat) : aLoad Try.prog H 3 (.pointer (some ⟨r, o, none⟩)) = ((H.read r o 1).bind one1) := by kernel_rfl
theorem infoI : ∃ i, Try.prog.info? 3 = some i ∧ i.size = 1 := Option.map_eq_some_iff.1 (show (Try.prog.info? 3).map (·.size) = some 1 by kernel_rfl)
theorem lenI (a : Option Addr) (n c : Nat) : aLen Try.prog #[25] (.slice a n c) = some (.int .i64 n) := by kernel_rfl
abbrev SaI (HB : Base) (H : Heap) (b r : Nat) (k : Bool) (d : Array Int) : Prop := Arr HB H b r 3 1 k (flat celInt d)
theorem ixAtI {r n c i : Nat} (h : i < n) : aIndexAt Try.prog 25 (.slice (some ⟨r, 0, none⟩) n c) (.int .i64 (i : Int)) = some (.pointer (some ⟨r, i, none⟩)) := by
  rw [ixI, if_pos ⟨by omega, by omega⟩, Int.toNat_natCast, Nat.zero_add]; rw [Nat.mul_one]
theorem ldAtI {HB : Base} {H : Heap} {b r : Nat} {k : Bool} {d : Array Int} (h : SaI HB H b r k d) {i : Nat} (hi : i < d.size) : aLoad Try.prog H 3 (.pointer (some ⟨r, i, none⟩)) = some (celInt.val d[i]!) := by
  have hle : i * 1 + 1 ≤ (flat celInt d).length := by rw [flat_len]; show _ ≤ d.size * 1; omega
  have h1 := h.read hle
  have h2 := flat_at (C := celInt) d hi
  have h2 : ((flat celInt d).drop (i * 1)).take 1 = celInt.ce d[i]! := h2
  rw [h2] at h1
  rw [ldI]
  first
    | (rw [h1]; rfl)
    | (rw [Nat.mul_one] at h1; rw [h1]; rfl)
theorem stAtI {HB : Base} {H : Heap} {b r : Nat} {k : Bool} {d : Array Int} (h : SaI HB H b r k d) {i : Nat} (hi : i < d.size) (x : Int) : ∃ H2, aStore Try.prog H 3 (.pointer (some ⟨r, i, none⟩)) (celInt.val x) = some H2 ∧ SaI HB H2 b r k (d.setIfInBounds i x) ∧ H2.size = H.size := by
  obtain ⟨inf, hi1, hi2⟩ := infoI
  have hle : i * 1 + 1 ≤ (flat celInt d).length := by rw [flat_len]; show _ ≤ d.size * 1; omega
  obtain ⟨H2, h1, h2, h3⟩ := h.store hi1 (v := celInt.val x) (new := celInt.ce x) (celInt.cells x) (hi2.trans (celInt.len x).symm) (celInt.ones x) (o := i * 1) (by rw [celInt.len]; exact hle)
  rw [show splice (flat celInt d) (i * 1) (celInt.ce x) = flat celInt (d.setIfInBounds i x) from flat_set (C := celInt) d hi x] at h2
  refine ⟨H2, ?_, h2, h3⟩
  first
    | exact h1
    | (rw [Nat.mul_one] at h1; exact h1)
/-- Two elements change places. -/
theorem swAtI {HB : Base} {H : Heap} {b r : Nat} {k : Bool} {d : Array Int} (h : SaI HB H b r k d) {i j : Nat} (hi : i < d.size) (hj : j < d.size) :
    ∃ H2 H3, aStore Try.prog H 3 (.pointer (some ⟨r, i, none⟩)) (celInt.val d[j]!) = some H2 ∧ aStore Try.prog H2 3 (.pointer (some ⟨r, j, none⟩)) (celInt.val d[i]!) = some H3 ∧ SaI HB H3 b r k (Sort.swp d i j) ∧ H3.size = H.size := by
  obtain ⟨H2, h1, h2, h3⟩ := stAtI h hi d[j]!
  obtain ⟨H3, g1, g2, g3⟩ := stAtI h2 (i := j) (by simp; exact hj) d[i]!
  exact ⟨H2, H3, h1, g1, g2, g3.trans h3⟩
/-- The same in a region that draws. -/
theorem swDI {HB : Base} {H : Heap} {b r : Nat} {k : Bool} {d : Array Int} (hLB : HB.low ≤ HB.size) (h : SaI HB H b r k d) {i j : Nat} (hi : i < d.size) (hj : j < d.size) :
    ∃ H2 H3 H4 H5, aStore Try.prog (H.relow H.size) 3 (.pointer (some ⟨r, i, none⟩)) (celInt.val d[j]!) = some H2 ∧ H2.relow (Nat.min H.low H2.low) = H3 ∧
      aStore Try.prog (H3.relow H3.size) 3 (.pointer (some ⟨r, j, none⟩)) (celInt.val d[i]!) = some H4 ∧ H4.relow (Nat.min H3.low H4.low) = H5 ∧ SaI HB H5 b r k (Sort.swp d i j) ∧ H5.size = H.size ∧ H5.low ≤ H5.size ∧ H3.low ≤ H3.size := by
  have hlo := h.keep.lo
  obtain ⟨H2, h1, h2, h3⟩ := stAtI (h.kept (Keep.relowS H)) hi d[j]!
  have lo2 := h2.keep.lo
  have lw2 := h2.keep.low hLB
  have h3' : H2.size = H.size := h3
  have hd3 : SaI HB (H2.relow (Nat.min H.low H2.low)) b r k (d.setIfInBounds i d[j]!) := h2.relow (Nat.le_min.2 ⟨hlo, lo2⟩) fun _ => Nat.le_trans (Nat.min_le_right _ _) lw2
  obtain ⟨H4, g1, g2, g3⟩ := stAtI (hd3.kept (Keep.relowS _)) (i := j) (by simp; exact hj) d[i]!
  have lo4 := g2.keep.lo
  have lw4 := g2.keep.low hLB
  have g3' : H4.size = H2.size := g3
  have hd5 : SaI HB (H4.relow (Nat.min (H2.relow (Nat.min H.low H2.low)).low H4.low)) b r k (Sort.swp d i j) := g2.relow (Nat.le_min.2 ⟨Nat.le_min.2 ⟨hlo, lo2⟩, lo4⟩) fun _ => Nat.le_trans (Nat.min_le_right _ _) lw4
  exact ⟨H2, _, H4, _, h1, rfl, g1, rfl, hd5, g3'.trans h3', Nat.le_trans (Nat.min_le_right _ _) lw4, Nat.le_trans (Nat.min_le_right _ _) lw2⟩
/-- A swap leaves another row of one's own. -/
theorem stXI {HB : Base} {H : Heap} {b r : Nat} {k : Bool} {d : Array Int} (h : SaI HB H b r k d) {i : Nat} (hi : i < d.size) (x : Int) {H2 : Heap} (hs : aStore Try.prog H 3 (.pointer (some ⟨r, i, none⟩)) (celInt.val x) = some H2) {s : Nat} {e : TypeId} {cl : List Value} (ho : Own H s e cl) (hr : r ≠ s) : Own H2 s e cl := by
  unfold aStore at hs
  simp only [] at hs
  split at hs
  · rename_i inf row h1 h2
    obtain ⟨_, hs⟩ := cond_some (b := _) hs
    cases hs
    exact ⟨by rw [Heap.store_get, if_neg (Ne.symm hr)]; exact ho.get, by rw [Heap.store_size]; exact ho.lt⟩
  · cases hs
theorem swDXI {HB : Base} {H : Heap} {b r : Nat} {k : Bool} {d : Array Int} (hLB : HB.low ≤ HB.size) (h : SaI HB H b r k d) {s : Nat} {e : TypeId} {cl : List Value} (ho : Own H s e cl) (hr : r ≠ s) {i j : Nat} (hi : i < d.size) (hj : j < d.size) :
    ∃ H2 H3 H4 H5, aStore Try.prog (H.relow H.size) 3 (.pointer (some ⟨r, i, none⟩)) (celInt.val d[j]!) = some H2 ∧ H2.relow (Nat.min H.low H2.low) = H3 ∧
      aStore Try.prog (H3.relow H3.size) 3 (.pointer (some ⟨r, j, none⟩)) (celInt.val d[i]!) = some H4 ∧ H4.relow (Nat.min H3.low H4.low) = H5 ∧ SaI HB H5 b r k (Sort.swp d i j) ∧ H5.size = H.size ∧ H5.low ≤ H5.size ∧ H3.low ≤ H3.size ∧ Own H5 s e cl := by
  have hlo := h.keep.lo
  obtain ⟨H2, h1, h2, h3⟩ := stAtI (h.kept (Keep.relowS H)) hi d[j]!
  have lo2 := h2.keep.lo
  have lw2 := h2.keep.low hLB
  have h3' : H2.size = H.size := h3
  have o2 := stXI (h.kept (Keep.relowS H)) hi d[j]! h1 (ho.addr (l := H.size)) hr
  have hd3 : SaI HB (H2.relow (Nat.min H.low H2.low)) b r k (d.setIfInBounds i d[j]!) := h2.relow (Nat.le_min.2 ⟨hlo, lo2⟩) fun _ => Nat.le_trans (Nat.min_le_right _ _) lw2
  obtain ⟨H4, g1, g2, g3⟩ := stAtI (hd3.kept (Keep.relowS _)) (i := j) (by simp; exact hj) d[i]!
  have o4 := stXI (hd3.kept (Keep.relowS _)) (i := j) (by simp; exact hj) d[i]! g1 ((o2.addr (l := Nat.min H.low H2.low)).addr (l := (H2.relow (Nat.min H.low H2.low)).size)) hr
  have lo4 := g2.keep.lo
  have lw4 := g2.keep.low hLB
  have g3' : H4.size = H2.size := g3
  have hd5 : SaI HB (H4.relow (Nat.min (H2.relow (Nat.min H.low H2.low)).low H4.low)) b r k (Sort.swp d i j) := g2.relow (Nat.le_min.2 ⟨Nat.le_min.2 ⟨hlo, lo2⟩, lo4⟩) fun _ => Nat.le_trans (Nat.min_le_right _ _) lw4
  exact ⟨H2, _, H4, _, h1, rfl, g1, rfl, hd5, g3'.trans h3', Nat.le_trans (Nat.min_le_right _ _) lw4, Nat.le_trans (Nat.min_le_right _ _) lw2, o4.addr⟩
/-- What is asked of the comparison: for elements of which V holds it says whether one is less than another one, and leaves what was there. -/
def CmpI (S : AM.Sys) (g : FuncId) (pre cs : List Value) (HB : Base) (V : Int → Prop) (lt : Int → Int → Bool) : Prop :=
  ∀ H x y, Keep HB.toHeap H → V x → V y → ∃ (z : Int) (H2 : Heap), Keep H H2 ∧ (z < 0 ↔ lt x y = true) ∧ Runs Try.prog S (.fn g) (pre ++ [celInt.val x, celInt.val y] ++ cs) H (.int .i64 z) H2
def AllI (V : Int → Prop) (d : Array Int) : Prop := ∀ i, i < d.size → V d[i]!
theorem AllI.swp {V : Int → Prop} {d : Array Int} (h : AllI V d) {i j : Nat} (hi : i < d.size) (hj : j < d.size) : AllI V (Sort.swp d i j) := fun k hk => by
  have hk' : k < d.size := by simpa [Sort.swp] using hk
  have : (Sort.swp d i j)[k]! = d[k]! ∨ (Sort.swp d i j)[k]! = d[i]! ∨ (Sort.swp d i j)[k]! = d[j]! := by
    unfold Sort.swp
    rw [getElem!_pos _ k (by simpa using hk'), Array.getElem_setIfInBounds (by simpa using hk'), Array.getElem_setIfInBounds (by simpa using hk')]
    split
    · right; left; rfl
    · split
      · right; right; rfl
      · left; rw [getElem!_pos d k hk']
  rcases this with h1 | h1 | h1 <;> rw [h1]
  · exact h k hk'
  · exact h i hi
  · exact h j hj
theorem swp_szI (d : Array Int) (i j : Nat) : (Sort.swp d i j).size = d.size := by simp [Sort.swp]
/-- A comparison in a region that draws. -/
theorem cmpDI {S : AM.Sys} {g : FuncId} {pre cs : List Value} {HB : Base} {V : Int → Prop} {lt : Int → Int → Bool} (hc : CmpI S g pre cs HB V lt) (hLB : HB.low ≤ HB.size) {H : Heap} {b r : Nat} {k : Bool} {d : Array Int} (h : SaI HB H b r k d) (hV : AllI V d) {i j : Nat} (hi : i < d.size) (hj : j < d.size) :
    ∃ (z : Int) (H4 H5 : Heap), decide (z < 0) = lt d[i]! d[j]! ∧ (∀ (K : Value → Heap → Prop) (bl : Blk K), sxCallB Try.prog S (.fn g) (pre ++ [celInt.val d[i]!, celInt.val d[j]!] ++ cs) (H.relow H.size) K bl = K (.int .i64 z) H4) ∧
      (∀ (all : List Oper) (n : Nat) (kk : Heap → Prop), sxD all n H H4 kk = kk H5) ∧ SaI HB H5 b r k d ∧ H.size ≤ H5.size ∧ H5.low ≤ H5.size := by
  obtain ⟨z, H3, hK3, hz, hR3⟩ := hc (H.relow H.size) d[i]! d[j]! (h.keep.trans (Keep.relowS H)) (hV _ hi) (hV _ hj)
  obtain ⟨H4, H5, hK5, hL5, f5, hd5⟩ := drawn (h.keep.low hLB) ⟨H3, hK3, hR3⟩
  refine ⟨z, H4, H5, ?_, f5, hd5, h.kept hK5, hK5.size, hL5⟩
  cases hl : lt d[i]! d[j]! with
  | true => exact decide_eq_true (hz.2 hl)
  | false => exact decide_eq_false fun hh => by rw [hz.1 hh] at hl; cases hl
theorem SaI.lowS {HB : Base} {H : Heap} {b r : Nat} {k : Bool} {d : Array Int} (h : SaI HB H b r k d) (hLB : HB.low ≤ HB.size) : H.low ≤ H.size := h.keep.low hLB
end Go.Proofs.Ytfekdjpfjogklaa
