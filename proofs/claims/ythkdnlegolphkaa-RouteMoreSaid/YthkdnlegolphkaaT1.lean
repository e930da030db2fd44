/- Points of profiles: what lies in the memory; what is checked of them. -/
import Derived.Test.YthkdnlegolphkaaR1
import Derived.Test.YthkdnlegolphkaaM1
import Derived.Test.YthkdnlegolphkaaS1P
set_option linter.unusedVariables false
set_option linter.unusedSimpArgs false
set_option linter.unusedSectionVars false

namespace Go.Proofs.Ythkdnlegolphkaa
open Go Go.AM
set_option maxRecDepth 10000

def stE : Enc Pt := prodE (intE .i64) (intE .i64)
def pc (x : Pt) : List Value := [.int .i64 x.1, .int .i64 x.2]
theorem stE_inv {H : Heap} {x : Pt} {cs : List Value} (h : stE.At H x cs) : cs = pc x ∧ R64 x.1 ∧ R64 x.2 := by
  obtain ⟨c1, c2, rfl, ⟨rfl, h1⟩, rfl, h2⟩ := h
  exact ⟨rfl, h1, h2⟩
theorem stE_at {H : Heap} {x : Pt} (h1 : R64 x.1) (h2 : R64 x.2) : stE.At H x (pc x) := ⟨_, _, rfl, ⟨rfl, h1⟩, rfl, h2⟩
abbrev SlP (H : Heap) (v : Value) (w : List Pt) (r o : Nat) : Prop := SlE stE H v w r o
theorem ldS (H : Heap) (r o : Nat) : aLoad Try.prog H 40 (.pointer (some ⟨r, o, none⟩)) = (H.read r o 2).map fun l => .agg ⟨l⟩ := by kernel_rfl
theorem lenS (a : Option Addr) (n c : Nat) : aLen Try.prog #[34] (.slice a n c) = some (.int .i64 n) := by kernel_rfl
theorem faS0 (r o : Nat) : aFieldAt Try.prog 40 0 (.pointer (some ⟨r, o, none⟩)) = some (.pointer (some ⟨r, o + 0, none⟩)) := by kernel_rfl
theorem faS1 (r o : Nat) : aFieldAt Try.prog 40 1 (.pointer (some ⟨r, o, none⟩)) = some (.pointer (some ⟨r, o + 1, none⟩)) := by kernel_rfl
theorem alS (H : Heap) : aAlloc Try.prog H 40 = some (.pointer (some ⟨H.size, 0, none⟩), H.newExact [.int .i64 0, .int .i64 0] 40) := by kernel_rfl
theorem newS (H : Heap) (x : Pt) : ∃ H2, aStore Try.prog (H.newExact [.int .i64 0, .int .i64 0] 40) 40 (.pointer (some ⟨H.size, 0, none⟩)) (.agg ⟨pc x⟩) = some H2 ∧ Keep H H2 ∧ H.size < H2.size ∧ H2.read H.size 0 2 = some (pc x) ∧ H2.read H.size 0 1 = some [.int .i64 x.1] ∧ H2.read H.size 1 1 = some [.int .i64 x.2] := by
  obtain ⟨i, hi, hsz⟩ := infoP
  obtain ⟨H2, h1, h2, h3, h4, h5⟩ := (Own.new H [.int .i64 0, .int .i64 0] 40).store (t := 40) hi (v := .agg ⟨pc x⟩) (new := pc x) rfl (by rw [hsz]; rfl) rfl (o := 0) (by show 0 + 2 ≤ 2; decide)
  have h2 : Own H2 H.size 40 (pc x) := h2
  exact ⟨H2, h1, h5 H (Keep.newExact _ _ _) (Nat.le_refl _), h2.lt, h2.read (o := 0) (n := 2) (by show 0 + 2 ≤ 2; decide), h2.read (o := 0) (n := 1) (by show 0 + 1 ≤ 2; decide), h2.read (o := 1) (n := 1) (by show 1 + 1 ≤ 2; decide)⟩
theorem boxP (H : Heap) (x : Pt) : ∃ H1, H.newExact (pc x) 40 = H1 ∧ Keep H H1 ∧ H1.read H.size 0 2 = some (pc x) ∧ H1.read H.size 0 1 = some [.int .i64 x.1] ∧ H1.read H.size 1 1 = some [.int .i64 x.2] := by
  obtain ⟨H1, e1, hK1, hz1, hr1, hrs⟩ := boxS H (pc x) 40
  exact ⟨H1, e1, hK1, hr1, hrs 0 1 (by show _ ≤ 2; decide), hrs 1 1 (by show _ ≤ 2; decide)⟩
theorem SlP_at {H : Heap} {w : List Pt} {r o : Nat} {a : Option Addr} {cap : Nat} (h : SlP H (.slice a w.length cap) w r o) {k : Nat} (h1 : k < w.length) :
    ∃ q, Zaaa Try.prog 34 (.slice a w.length cap) (.int .i64 (k : Int)) = some (.pointer (some ⟨r, q, none⟩)) ∧ H.read r q 2 = some (pc (w.getD k default)) ∧
      H.read r q 1 = some [.int .i64 (w.getD k default).1] ∧ H.read r (q + 1) 1 = some [.int .i64 (w.getD k default).2] ∧ R64 (w.getD k default).1 ∧ R64 (w.getD k default).2 := by
  obtain ⟨a', cap', e, ha⟩ := h.isv
  cases e
  obtain ⟨es, h2, h3⟩ := h.rd k h1
  obtain ⟨rfl, h4, h5⟩ := stE_inv h3
  have h2 : H.read r (o + k * 2) 2 = some (pc (w.getD k default)) := h2
  have hs := fun j (hj : j + 1 ≤ 2) => read_sub h2 hj
  have hx : Zaaa Try.prog 34 (.slice (some ⟨r, o, none⟩) w.length cap) (.int .i64 (k : Int)) = if 0 ≤ (k : Int) ∧ (k : Int) < ((w.length : Nat) : Int) then some (.pointer (some ⟨r, o + ((k : Int)).toNat * 2, none⟩)) else none := by kernel_rfl
  refine ⟨o + k * 2, by rw [ha (by omega), hx, if_pos ⟨by omega, by omega⟩, Int.toNat_natCast], h2, ?_, hs 1 (by omega), h4, h5⟩
  exact hs 0 (by omega)
def PostB (H : Heap) (p : Prop) (u : Value) (H' : Heap) : Prop := ∃ b, u = .bool b ∧ (b = true ↔ p) ∧ Keep H H'

variable {S : AM.Sys} (hS : Only S 10)
include hS

end Go.Proofs.Ythkdnlegolphkaa
