/- The length of a number in bits. -/
import Derived.Test.YtpeoleimmabceaaE1
import Derived.Test.YtpeoleimmabceaaGj
import Derived.Sort.LotD1
set_option linter.unusedVariables false
set_option linter.unusedSimpArgs false
set_option linter.unusedSectionVars false

namespace Go.Proofs.Ytpeoleimmabceaa
open Go Go.AM
set_option maxRecDepth 10000
theorem sxOptB_tab {P : Program} {t : TypeId} {l : List UInt8} {K : Value → Prop} {b : Blk K} {x : Nat} (hstr : P.underlying t = some .string) (hl : Nat.beq l.length 256 = true) (ht : (List.range 256).all (fun y => Nat.beq (l.getD y 0).toNat (Sort.bitsLen y)) = true) (hx : x < 256) (hk : K (.int .u8 ((Sort.bitsLen x : Nat) : Int))) :
    sxOptB (aIndex P t (.string ⟨l.toArray⟩) (.int .u8 (x : Int))) K b := by
  have hll := Nat.eq_of_beq_eq_true hl
  have h1 := index_str (P := P) (t := t) hstr (l := l) (k := .u8) (i := (x : Int)) (by omega) (by omega)
  have h2 : (l.getD x 0).toNat = Sort.bitsLen x := by
    have := List.all_eq_true.1 ht x (List.mem_range.2 hx)
    exact Nat.eq_of_beq_eq_true this
  rw [Int.toNat_natCast, h2] at h1
  have h3 : aIndex P t (.string ⟨l.toArray⟩) (.int .u8 (x : Int)) = some (.int .u8 ((Sort.bitsLen x : Nat) : Int)) := h1
  rw [h3, Zach]
  exact hk
theorem cv64 (z : Int) : aConv Try.prog 114 5 (.int .u64 z) = some (.int .u8 (IntKind.u8.wrap z)) := by kernel_rfl
theorem cv8 (z : Int) : aConv Try.prog 5 3 (.int .u8 z) = some (.int .i64 (IntKind.i64.wrap z)) := by kernel_rfl
theorem bitsLen_256 {x : Nat} (h : 256 ≤ x) : Sort.bitsLen x = 8 + Sort.bitsLen (x / 256) := by
  have h1 := Sort.lt_two_pow_bitsLen (x / 256)
  have h2 := Sort.lt_two_pow_bitsLen x
  apply Nat.le_antisymm
  · rw [Sort.bitsLen_le_iff, Nat.pow_add]
    have : (2 : Nat) ^ 8 = 256 := rfl
    rw [this]
    omega
  · have h9 : ¬ Sort.bitsLen x ≤ 8 := fun hh => by
      have := (Sort.bitsLen_le_iff x 8).1 hh
      have e : (2 : Nat) ^ 8 = 256 := rfl
      omega
    have h3 : Sort.bitsLen (x / 256) ≤ Sort.bitsLen x - 8 := by
      rw [Sort.bitsLen_le_iff]
      have e : (2 : Nat) ^ Sort.bitsLen x = 2 ^ (Sort.bitsLen x - 8) * 256 := by
        rw [show (256 : Nat) = 2 ^ 8 from rfl, ← Nat.pow_add]
        congr 1; omega
      rw [e] at h2
      exact Nat.div_lt_of_lt_mul (by omega)
    omega
theorem bitsLen_16 {x : Nat} (h : x < 65536) : Sort.bitsLen x ≤ 16 := (Sort.bitsLen_le_iff x 16).2 h
variable {S : AM.Sys} (hS : Only S 11)
include hS

theorem bLen64_runs (x : Nat) (hx : x < 65536) (H : Heap) : Runs Try.prog S (.fn 91) [.int .u64 (x : Int)] H (.int .i64 (Sort.bitsLen x : Int)) H := by
  suffices h : WCall Try.prog S (.fn 91) [.int .u64 (x : Int)] H (fun v H' => v = .int .i64 (Sort.bitsLen x : Int) ∧ H' = H) by
    obtain ⟨_, _, hr, rfl, rfl⟩ := h; exact hr
  refine Zaav Try.func91 rfl (Nat.le_of_ble_eq_true rfl) (hS.no rfl _ _) ?_
  rw [Try.ntmps91, Try.results91]
  have h1 : ¬ (4294967296 : Int) ≤ (x : Int) := by omega
  have h2 : ¬ (65536 : Int) ≤ (x : Int) := by omega
  by_cases h3 : x < 256
  · have h3' : ¬ (256 : Int) ≤ (x : Int) := by omega
    have hb := bitsLen_16 hx
    have hw : IntKind.u8.wrap (x : Int) = (x : Int) := IntWalk.u8_in _ (by omega)
    have hw2 : IntKind.i64.wrap ((Sort.bitsLen x : Nat) : Int) = ((Sort.bitsLen x : Nat) : Int) := IntWalk.i64_in _ (by omega)
    have hw3 : IntKind.i64.wrap (0 + ((Sort.bitsLen x : Nat) : Int)) = ((Sort.bitsLen x : Nat) : Int) := by rw [Int.zero_add]; exact hw2
    repeat' (first | simp only [↓Zabp, ↓Zabm, ↓Zabo, ↓Zaae, ↓Zabn, ↓Zacg, ↓Zacf, ↓Zacl, ↓Zaaq, ↓Zaai, ↓Zaaj, ↓bxOp_index, ↓bxOp_convert, ↓bxPut, ↓Zabi, ↓Zabg, ↓Zacj, ↓Zack, ↓Zacm, ↓Zaaz, ↓Zaax, aConvH_int, Zach, Zaab, Zabb, Zacd, Zabe, ↓reduceIte, Nat.reduceEqDiff, Nat.reduceLT, dec_F, *, argF, List.getD_cons_zero, cv64])
    refine sxOptB_tab Try.underlying9 (by kernel_rfl) (by kernel_rfl) h3 ?_
    repeat' (first | simp only [↓bxPut, ↓Zacm, aConvH_int, Zach, Zaab, Zabb, ↓reduceIte, Nat.reduceEqDiff, Nat.reduceLT, and_self, *, cv8])
  · have h3' : (256 : Int) ≤ (x : Int) := by omega
    have d08 : (0 : Int) ≤ 8 := by decide
    have hsh : (x : Int).fdiv (2 ^ min (Int.toNat 8) IntKind.u64.bits) = ((x / 256 : Nat) : Int) := by
      show (x : Int).fdiv 256 = _
      rw [Int.fdiv_eq_ediv_of_nonneg _ (by decide)]; omega
    have hb := bitsLen_16 (show x / 256 < 65536 by omega)
    have h4 : x / 256 < 256 := by omega
    have hw : IntKind.u8.wrap ((x / 256 : Nat) : Int) = ((x / 256 : Nat) : Int) := IntWalk.u8_in _ (by omega)
    have hw1 : IntKind.i64.wrap (0 + 8) = 8 := by decide
    have hw2 : IntKind.i64.wrap ((Sort.bitsLen (x / 256) : Nat) : Int) = ((Sort.bitsLen (x / 256) : Nat) : Int) := IntWalk.i64_in _ (by omega)
    have h256 := bitsLen_256 (show 256 ≤ x by omega)
    have hw3 : IntKind.i64.wrap (8 + ((Sort.bitsLen (x / 256) : Nat) : Int)) = ((Sort.bitsLen x : Nat) : Int) := by rw [h256, IntWalk.i64_in _ (by omega)]; simp
    clear h256
    repeat' (first | simp only [↓Zabp, ↓Zabm, ↓Zabo, ↓Zaae, ↓Zabn, ↓Zacg, ↓Zacf, ↓Zacl, ↓Zaaq, ↓Zaai, ↓Zaaj, ↓bxOp_index, ↓bxOp_convert, ↓bxPut, ↓Zabi, ↓Zabg, ↓Zacj, ↓Zack, ↓Zacm, ↓Zaaz, ↓Zaax, aConvH_int, Zach, Zaab, Zabb, Zace, Zacd, Zabe, ↓reduceIte, Nat.reduceEqDiff, Nat.reduceLT, dec_T, dec_F, *, argF, List.getD_cons_zero, cv64])
    refine sxOptB_tab Try.underlying9 (by kernel_rfl) (by kernel_rfl) h4 ?_
    repeat' (first | simp only [↓bxPut, ↓Zacm, aConvH_int, Zach, Zaab, Zabb, ↓reduceIte, Nat.reduceEqDiff, Nat.reduceLT, and_self, *, cv8])

theorem bLen_runs (x : Nat) (hx : x < 65536) (H : Heap) : Runs Try.prog S (.fn 79) [.int .u64 (x : Int)] H (.int .i64 (Sort.bitsLen x : Int)) H := by
  suffices h : WCall Try.prog S (.fn 79) [.int .u64 (x : Int)] H (fun v H' => v = .int .i64 (Sort.bitsLen x : Int) ∧ H' = H) by
    obtain ⟨_, _, hr, rfl, rfl⟩ := h; exact hr
  have f1 := (bLen64_runs hS x hx H).bx
  refine Zaav Try.func79 rfl (Nat.le_of_ble_eq_true rfl) (hS.no rfl _ _) ?_
  rw [Try.ntmps79, Try.results79]
  repeat' (first | simp only [↓Zabp, ↓Zabm, ↓Zabo, ↓Zaae, ↓Zabn, ↓Zacg, ↓Zacf, ↓Zacl, ↓Zaaq, ↓Zaai, ↓Zaat, ↓bxOp_convert, ↓bxPut, ↓Zabi, ↓Zabj, ↓Zabg, ↓Zacj, ↓Zack, ↓Zacm, ↓Zaaz, ↓Zaax, ↓Zaay, Zabq, Zacd, Zabe, List.map_cons, List.map_nil, List.nil_append, List.append_nil, ↓reduceIte, Nat.reduceEqDiff, Nat.reduceLT, and_self, *, argF, List.getD_cons_zero])
end Go.Proofs.Ytpeoleimmabceaa
