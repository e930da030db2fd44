/- Sorting numbers: loads and stores. -/
import Derived.Test.YtpeoleimmabceaaE1
import Derived.Sort.Defs
import Derived.Sort.AssemblyPlain
set_option linter.unusedVariables false
set_option linter.unusedSimpArgs false
set_option linter.unusedSectionVars false

namespace Go.Proofs.Ytpeoleimmabceaa
open Go Go.AM
set_option maxRecDepth 10000
theorem ixJ (r n c : Nat) (k : IntKind) (i : Int) : aIndexAt Try.prog 22 (.slice (some ⟨r, 0, none⟩) n c) (.int k i) = if 0 ≤ i ∧ i < (n : Int) then some (.pointer (some ⟨r, 0 + i.toNat * 1, none⟩)) else none := by kernel_rfl
theorem ldJ (H : Heap) (r o : Nat) : aLoad Try.prog H 3 (.pointer (some ⟨r, o, none⟩)) = ((H.read r o 1).bind one1) := by kernel_rfl
theorem infoJ : ∃ i, Try.prog.info? 3 = some i ∧ i.size = 1 := Option.map_eq_some_iff.1 (show (Try.prog.info? 3).map (·.size) = some 1 by kernel_rfl)
abbrev SaJ (HB : Base) (H : Heap) (b r : Nat) (k : Bool) (d : Array Int) : Prop := Arr HB H b r 3 1 k (flat celInt d)
theorem ixAtJ {r n c i : Nat} (h : i < n) : aIndexAt Try.prog 22 (.slice (some ⟨r, 0, none⟩) n c) (.int .i64 (i : Int)) = some (.pointer (some ⟨r, i, none⟩)) := by
  rw [ixJ, if_pos ⟨by omega, by omega⟩, Int.toNat_natCast, Nat.zero_add]; rw [Nat.mul_one]
theorem ldAtJ {HB : Base} {H : Heap} {b r : Nat} {k : Bool} {d : Array Int} (h : SaJ HB H b r k d) {i : Nat} (hi : i < d.size) : aLoad Try.prog H 3 (.pointer (some ⟨r, i, none⟩)) = some (celInt.val d[i]!) := by
  have hle : i * 1 + 1 ≤ (flat celInt d).length := by rw [flat_len]; show _ ≤ d.size * 1; omega
  have h1 := h.read hle
  have h2 := flat_at (C := celInt) d hi
  have h2 : ((flat celInt d).drop (i * 1)).take 1 = celInt.ce d[i]! := h2
  rw [h2] at h1
  rw [ldJ]
  first
    | (rw [h1]; rfl)
    | (rw [Nat.mul_one] at h1; rw [h1]; rfl)
theorem stAtJ {HB : Base} {H : Heap} {b r : Nat} {k : Bool} {d : Array Int} (h : SaJ HB H b r k d) {i : Nat} (hi : i < d.size) (x : Int) : ∃ H2, aStore Try.prog H 3 (.pointer (some ⟨r, i, none⟩)) (celInt.val x) = some H2 ∧ SaJ HB H2 b r k (d.setIfInBounds i x) ∧ H2.size = H.size := by
  obtain ⟨inf, hi1, hi2⟩ := infoJ
  have hle : i * 1 + 1 ≤ (flat celInt d).length := by rw [flat_len]; show _ ≤ d.size * 1; omega
  obtain ⟨H2, h1, h2, h3⟩ := h.store hi1 (v := celInt.val x) (new := celInt.ce x) (celInt.cells x) (hi2.trans (celInt.len x).symm) (celInt.ones x) (o := i * 1) (by rw [celInt.len]; exact hle)
  rw [show splice (flat celInt d) (i * 1) (celInt.ce x) = flat celInt (d.setIfInBounds i x) from flat_set (C := celInt) d hi x] at h2
  refine ⟨H2, ?_, h2, h3⟩
  first
    | exact h1
    | (rw [Nat.mul_one] at h1; exact h1)
theorem swDJ {HB : Base} {H : Heap} {b r : Nat} {k : Bool} {d : Array Int} (hLB : HB.low ≤ HB.size) (h : SaJ HB H b r k d) {i j : Nat} (hi : i < d.size) (hj : j < d.size) :
    ∃ H2 H3 H4 H5, aStore Try.prog (H.relow H.size) 3 (.pointer (some ⟨r, i, none⟩)) (celInt.val d[j]!) = some H2 ∧ H2.relow (Nat.min H.low H2.low) = H3 ∧
      aStore Try.prog (H3.relow H3.size) 3 (.pointer (some ⟨r, j, none⟩)) (celInt.val d[i]!) = some H4 ∧ H4.relow (Nat.min H3.low H4.low) = H5 ∧ SaJ HB H5 b r k (Sort.swp d i j) ∧ H5.size = H.size ∧ H5.low ≤ H5.size ∧ H3.low ≤ H3.size := by
  have hlo := h.keep.lo
  obtain ⟨H2, h1, h2, h3⟩ := stAtJ (h.kept (Keep.relowS H)) hi d[j]!
  have lo2 := h2.keep.lo
  have lw2 := h2.keep.low hLB
  have h3' : H2.size = H.size := h3
  have hd3 : SaJ HB (H2.relow (Nat.min H.low H2.low)) b r k (d.setIfInBounds i d[j]!) := h2.relow (Nat.le_min.2 ⟨hlo, lo2⟩) fun _ => Nat.le_trans (Nat.min_le_right _ _) lw2
  obtain ⟨H4, g1, g2, g3⟩ := stAtJ (hd3.kept (Keep.relowS _)) (i := j) (by simp; exact hj) d[i]!
  have lo4 := g2.keep.lo
  have lw4 := g2.keep.low hLB
  have g3' : H4.size = H2.size := g3
  have hd5 : SaJ HB (H4.relow (Nat.min (H2.relow (Nat.min H.low H2.low)).low H4.low)) b r k (Sort.swp d i j) := g2.relow (Nat.le_min.2 ⟨Nat.le_min.2 ⟨hlo, lo2⟩, lo4⟩) fun _ => Nat.le_trans (Nat.min_le_right _ _) lw4
  exact ⟨H2, _, H4, _, h1, rfl, g1, rfl, hd5, g3'.trans h3', Nat.le_trans (Nat.min_le_right _ _) lw4, Nat.le_trans (Nat.min_le_right _ _) lw2⟩
def AllJ (V : Int → Prop) (d : Array Int) : Prop := ∀ i, i < d.size → V d[i]!
theorem AllJ.swp {V : Int → Prop} {d : Array Int} (h : AllJ V d) {i j : Nat} (hi : i < d.size) (hj : j < d.size) : AllJ V (Sort.swp d i j) := fun k hk => by
  have hk' : k < d.size := by simpa [Sort.swp] using hk
  have : (Sort.swp d i j)[k]! = d[k]! ∨ (Sort.swp d i j)[k]! = d[i]! ∨ (Sort.swp d i j)[k]! = d[j]! := by
    unfold Sort.swp
    rw [getElem!_pos _ k (by simpa using hk'), Array.getElem_setIfInBounds (by simpa using hk'), Array.getElem_setIfInBounds (by simpa using hk')]
    split
    · right; left; rfl
    · split
      · right; right; rfl
      · left; rw [getElem!_pos d k hk']
  rcases this with h1 | h1 | h1 <;> rw [h1]
  · exact h k hk'
  · exact h i hi
  · exact h j hj
theorem swp_szJ (d : Array Int) (i j : Nat) : (Sort.swp d i j).size = d.size := by simp [Sort.swp]
theorem SaJ.lowS {HB : Base} {H : Heap} {b r : Nat} {k : Bool} {d : Array Int} (h : SaJ HB H b r k d) (hLB : HB.low ≤ HB.size) : H.low ≤ H.size := h.keep.low hLB
end Go.Proofs.Ytpeoleimmabceaa
