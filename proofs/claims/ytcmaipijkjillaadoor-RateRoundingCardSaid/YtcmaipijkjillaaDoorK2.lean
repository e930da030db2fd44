/- Fractions of the program, on the canonical machine. -/
import Derived.Test.YtcmaipijkjillaaDoorK1
import Derived.Test.YtcmaipijkjillaaDoorBG
set_option linter.unusedVariables false
set_option linter.unusedSimpArgs false
set_option linter.unusedSectionVars false

namespace Go.Proofs.YtcmaipijkjillaaDoor
open Go Go.AM
set_option maxRecDepth 10000

theorem u64_in (z:Int) (h:0 ≤ z ∧ z ≤ 18446744073709551615):IntKind.u64.wrap z = z:=by
  have:IntKind.u64.wrap z = z % 18446744073709551616:=rfl;rw [this]; omega
theorem u64_mod (z:Int):IntKind.u64.wrap z = z % 18446744073709551616:=rfl
theorem mask32 (z:Int) (h:0 ≤ z ∧ z ≤ 18446744073709551615):IntKind.u64.wrap ((BitVec.ofInt IntKind.u64.bits z &&& BitVec.ofInt IntKind.u64.bits 4294967295).toNat:Nat) = z % 4294967296:=by
  have h1:(BitVec.ofInt IntKind.u64.bits z).toNat = z.toNat:=by
    rw [BitVec.toNat_ofInt];have:((2 ^ IntKind.u64.bits:Nat):Int) = 18446744073709551616:=rfl;rw [this]; omega
  have h2:(BitVec.ofInt IntKind.u64.bits 4294967295).toNat = 2 ^ 32 - 1:=rfl;rw [BitVec.toNat_and,h1,h2,Nat.and_two_pow_sub_one_eq_mod,u64_in _ (by omega)]
  omega
theorem shr32 (z:Int) (h:0 ≤ z):z.fdiv (2 ^ min (Int.toNat 32) IntKind.u64.bits) = z / 4294967296:=by
  have:(2:Int) ^ min (Int.toNat 32) IntKind.u64.bits = 4294967296:=rfl;rw [this,Int.fdiv_eq_ediv_of_nonneg _ (by omega)]
theorem halves_mul (x0 x1 y0 y1:Int):(x1 * 4294967296 + x0) * (y1 * 4294967296 + y0) = (x1 * y1) * 18446744073709551616 + (x1 * y0 + x0 * y1) * 4294967296 + x0 * y0:=by
  have h:(18446744073709551616:Int) = 4294967296 * 4294967296:=by decide
  rw [h,Int.add_mul,Int.mul_add,Int.mul_add,Int.add_mul]
  ac_rfl
theorem half_le {a b:Int} (ha:0 ≤ a ∧ a ≤ 4294967295) (hb:0 ≤ b ∧ b ≤ 4294967295):0 ≤ a * b ∧ a * b ≤ 18446744065119617025:=
  ⟨Int.mul_nonneg ha.1 hb.1,Int.mul_le_mul ha.2 hb.2 hb.1 (by omega)⟩

variable {S:AM.Sys} (hS:Only S 6)
include hS

theorem Mul64_runs (x y:Int) (H:Heap) (hx:0 ≤ x ∧ x ≤ 9223372036854775807) (hy:0 ≤ y ∧ y ≤ 9223372036854775807):Runs Tryd.prog S (.fn 51) [.int .u64 x,.int .u64 y] H (.tuple #[.int .u64 (x * y / 18446744073709551616),.int .u64 (x * y % 18446744073709551616)]) H:=by
  suffices h:WCall Tryd.prog S (.fn 51) [.int .u64 x,.int .u64 y] H (fun v H' => v = .tuple #[.int .u64 (x * y / 18446744073709551616),.int .u64 (x * y % 18446744073709551616)] ∧ H' = H) by
    obtain ⟨_,_,hr,rfl,rfl⟩:=h; exact hr
  refine call_of Tryd.func51 rfl (Nat.le_of_ble_eq_true rfl) (hS.no rfl _ _) ?_
  rw [Tryd.ntmps51,Tryd.results51]
  repeat' simp only [↓Zabo,↓Zabq,↓Zabp,↓Zacj,↓Zaci,↓Zaco,↓Zaar,↓Zaak,↓Zaal,↓bxPut,↓Zabj,↓Zabh,↓Zacm,↓Zacn,↓Zacp,↓Zaaz,↓Zaax,Zack,sxOptB_ite,Zaad,Zabb,Zabf,↓reduceIte,Nat.reduceEqDiff,Nat.reduceLT,and_true, *,argF,List.getD_cons_zero,List.getD_cons_succ]
  refine ⟨by decide,by decide,by decide,by decide,by decide,?_⟩
  rw [mask32 x (by omega),mask32 y (by omega),shr32 x (by omega),shr32 y (by omega)]
  have hx0:0 ≤ x % 4294967296 ∧ x % 4294967296 ≤ 4294967295:=by omega
  have hy0:0 ≤ y % 4294967296 ∧ y % 4294967296 ≤ 4294967295:=by omega
  have hx1:0 ≤ x / 4294967296 ∧ x / 4294967296 ≤ 2147483647:=by omega
  have hy1:0 ≤ y / 4294967296 ∧ y / 4294967296 ≤ 2147483647:=by omega
  have hm:=halves_mul (x % 4294967296) (x / 4294967296) (y % 4294967296) (y / 4294967296);rw [show x / 4294967296 * 4294967296 + x % 4294967296 = x by omega,show y / 4294967296 * 4294967296 + y % 4294967296 = y by omega] at hm
  have b00:=half_le hx0 hy0;have b10:=half_le (a:=x / 4294967296) (by omega) hy0
  have b01:=half_le (b:=y / 4294967296) hx0 (by omega)
  have b11:0 ≤ x / 4294967296 * (y / 4294967296) ∧ x / 4294967296 * (y / 4294967296) ≤ 4611686014132420609:=⟨Int.mul_nonneg hx1.1 hy1.1,Int.mul_le_mul hx1.2 hy1.2 hy1.1 (by omega)⟩
  generalize x % 4294967296 * (y % 4294967296) = p00 at *;generalize x / 4294967296 * (y % 4294967296) = p10 at *;generalize x % 4294967296 * (y / 4294967296) = p01 at *;generalize x / 4294967296 * (y / 4294967296) = p11 at *;rw [u64_in p00 (by omega),u64_in p10 (by omega),u64_in p01 (by omega),u64_in p11 (by omega),shr32 p00 (by omega),u64_in (p10 + p00 / 4294967296) (by omega),mask32 _ (by omega),shr32 _ (by omega)]
  rw [u64_in ((p10 + p00 / 4294967296) % 4294967296 + p01) (by omega),shr32 _ (by omega),u64_in (p11 + (p10 + p00 / 4294967296) / 4294967296) (by omega),u64_in _ (by omega),u64_mod (x * y)]
  generalize x * y = p at *;have e1:p11 + (p10 + p00 / 4294967296) / 4294967296 + ((p10 + p00 / 4294967296) % 4294967296 + p01) / 4294967296 = p / 18446744073709551616:=by omega
  rw [e1]
end Go.Proofs.YtcmaipijkjillaaDoor
