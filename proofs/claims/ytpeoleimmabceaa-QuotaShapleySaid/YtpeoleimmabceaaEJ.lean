/- The law QuotaGrows on the canonical machine. -/
import Derived.Test.YtpeoleimmabceaaEI
set_option linter.unusedVariables false
set_option linter.unusedSimpArgs false
set_option linter.unusedSectionVars false

namespace Go.Proofs.Ytpeoleimmabceaa
open Go Go.AM
set_option maxRecDepth 10000

theorem boxShare {H H1 : Heap} {rule e : Int} {c : List Int} {u : Value} (h : PostSh RunR H rule e c u H1) :
    ∃ a n cp z f H2 H3, u = .tuple ⟨[.agg ⟨[.slice a n cp, .int .i64 z]⟩, .int .i64 f]⟩ ∧ aAlloc Try.prog H1 26 = some (.pointer (some ⟨H1.size, 0, none⟩), H2) ∧ aStore Try.prog H2 26 (.pointer (some ⟨H1.size, 0, none⟩)) (.agg ⟨[.slice a n cp, .int .i64 z]⟩) = some H3 ∧
      Keep H H3 ∧ H1.size < H3.size ∧ Own H3 H1.size 26 [.slice a n cp, .int .i64 z] ∧ (¬ (Q.Prob e c ∧ isRule rule) → f = 2 ∧ n = 0 ∧ z = 0) ∧
      (Q.Prob e c ∧ isRule rule → f = 0 ∧ ∃ w r', n = c.length ∧ w.length = c.length ∧ Q.Shr e c w z ∧ Awd RunR rule e c w z ∧ SlI .i64 H3 (.slice a n cp) w r' 0) := by
  obtain ⟨a, n, cp, z, f, rfl, k1, hbad, hgood⟩ := h
  obtain ⟨H2, e2, k2, s2, -, -⟩ := box1 H1 [.slice none 0 0, .int .i64 0] 26
  have ow2 : Own H2 H1.size 26 [.slice none 0 0, .int .i64 0] := e2 ▸ Own.new H1 _ _
  have al2 : aAlloc Try.prog H1 26 = some (.pointer (some ⟨H1.size, 0, none⟩), H2) := by rw [alP, e2]
  obtain ⟨H3, st3, o3, z3, x3, k13⟩ := stPX ow2 rfl a n cp z k2 (Nat.le_refl _)
  refine ⟨a, n, cp, z, f, H2, H3, rfl, al2, st3, k1.trans k13, by omega, o3, hbad, fun hp => ?_⟩
  obtain ⟨rfl, w, rfl, hsh, haw, v', r', hv', sv, hr'⟩ := hgood hp
  cases hv'
  exact ⟨rfl, w, r', hsh.1, hsh.1, hsh, haw, sv.keep k13⟩

variable {S : AM.Sys} (hS : Only S 11)
include hS

end Go.Proofs.Ytpeoleimmabceaa
