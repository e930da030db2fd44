/- The greatest common divisor of two ints. -/
import Derived.Test.YtcmaipijkjillaaDoorBF
set_option linter.unusedVariables false
set_option linter.unusedSimpArgs false
set_option linter.unusedSectionVars false

namespace Go.Proofs.YtcmaipijkjillaaDoor
open Go Go.AM
set_option maxRecDepth 10000

variable {S:AM.Sys} (hS:Only S 6)
include hS

theorem Gcd_runs (x y:Int) (H:Heap) (hx:0 ≤ x) (hy:0 ≤ y) (hx2:x ≤ 9223372036854775807) (hy2:y ≤ 9223372036854775807):∃ H',Keep H H' ∧ Runs Tryd.prog S (.fn 52) [.int .i64 x,.int .i64 y] H (.int .i64 (Nat.gcd x.toNat y.toNat:Nat)) H':=by
  suffices h:WCall Tryd.prog S (.fn 52) [.int .i64 x,.int .i64 y] H (fun v H' => v = .int .i64 (Nat.gcd x.toNat y.toNat:Nat) ∧ Keep H H') by
    obtain ⟨_,H',hr,rfl,hk⟩:=h; exact ⟨H',hk,hr⟩
  refine call_of Tryd.func52 rfl (Nat.le_of_ble_eq_true rfl) (hS.no rfl _ _) ?_
  rw [Tryd.ntmps52,Tryd.results52]
  repeat' simp only [↓Zabo,↓Zabq,↓bxC_loop,↓Zabl,↓Zabp,↓Zaci,↓Zach,↓Zacn,↓Zaar,↓Zaak,↓bxOp_un,↓bxOp_max,↓bxPut,↓Zabj,↓Zabh,↓Zacl,↓Zacm,↓Zaaz,↓Zaax,Zabe,Nat.reduceLT, *]
  refine sxL_of (fun m ρ H2 => ∃ a b:Int,m = b.toNat ∧ 0 ≤ a ∧ 0 ≤ b ∧ a ≤ 9223372036854775807 ∧ b ≤ 9223372036854775807 ∧ Nat.gcd a.toNat b.toNat = Nat.gcd x.toNat y.toNat ∧ Keep H H2 ∧ ρ 0 = .int .i64 a ∧ ρ 1 = .int .i64 b)
    ⟨x,y,rfl,hx,hy,hx2,hy2,rfl,Keep.refl H,rfl,rfl⟩ ?_
  rintro m ρ H2 ⟨a,b,rfl,ha,hb,ha2,hb2,hG,hK,e0,e1⟩;generalize Nat.gcd x.toNat y.toNat = G at *
  by_cases hb0:b = 0
  · subst hb0;have hG2:(G:Int) = a:=by rw [← hG,show (0:Int).toNat = 0 from rfl,Nat.gcd_zero_right]; omega
    have f1:IntKind.i64.wrap (0 - a) = 0 - a:=IntWalk.i64_in _ (by omega)
    have f2:max a (0 - a) = a:=by omega
    clear hG
    repeat' (first | simp only [↓Zabr,↓Zabm,↓Zabo,↓Zabq,↓Zaah,↓Zabl,↓Zabn,↓Zaci,↓Zach,↓Zacc,↓Zaai,↓Zaca,↓sxDL_assign,↓Zabv,↓Zacn,↓Zaar,↓Zaak,↓Zaal,↓bxPut,↓Zabj,↓Zabi,↓Zaaf,↓Zaae,↓Zabd,↓Zabc,↓Zaco,↓Zaaz,↓Zaax,Zacj,mm_max,Zaad,Zabb,una_neg,sxIfB_f,↓reduceIte,Nat.reduceEqDiff,Nat.reduceLT,dec_F,and_true,not_true_eq_false, *] | (with_reducible first | refine Zabu (by assumption) (by decide +kernel) ?_ | refine Zabt (by decide +kernel) ?_ | refine Zacb (by decide +kernel) ?_ | refine Zabw ?_))
    rw [if_neg (by omega)]
  · have hm:a.tmod b = a % b:=Int.tmod_eq_emod_of_nonneg ha;have h1:=Int.emod_nonneg a hb0;have h2:=Int.emod_lt_of_pos a (show 0 < b by omega)
    have f1:IntKind.i64.wrap (a % b) = a % b:=IntWalk.i64_in _ (by omega)
    have hg2:Nat.gcd b.toNat (a % b).toNat = G:=by
      rw [← hG,Int.toNat_emod ha hb,Nat.gcd_comm b.toNat (a.toNat % b.toNat),← Nat.gcd_rec,Nat.gcd_comm]
    repeat' (first | simp only [↓Zabr,↓Zabm,↓Zabo,↓Zabq,↓Zaah,↓Zabl,↓Zabn,↓Zaci,↓Zach,↓Zacc,↓Zaai,↓Zaca,↓sxDL_assign,↓Zabv,↓Zacn,↓Zaar,↓Zaak,↓Zaal,↓bxPut,↓Zabj,↓Zabi,↓Zaaf,↓Zaae,↓Zabd,↓Zabc,↓Zaco,↓Zaaz,↓Zaax,Zacj,Zaad,Zabb,Zacg,↓reduceIte,Nat.reduceEqDiff,Nat.reduceLT,dec_T,size_relow,low_relow,relow_relow,ne_eq,not_false_eq_true, *] | (with_reducible first | refine Zabu (by assumption) (by decide +kernel) ?_ | refine Zabt (by decide +kernel) ?_ | refine Zacb (by decide +kernel) ?_ | refine Zabw ?_))
    refine ⟨_,?_,b,a % b,rfl,hb,h1,hb2,by omega,hg2,?_,rfl,?_⟩
    · omega
    · have z1:min H.low H.size ≤ H2.size:=Nat.le_trans (Nat.min_le_right _ _) hK.size;exact { size:=hK.size,low:=fun _ => Nat.min_le_right _ _,lo:=by repeat' (first | exact hK.lo | exact z1 | refine Nat.le_min.2 ⟨?_,?_⟩),row:=hK.row,grp:=hK.grp,mem:=hK.mem }
    · rfl
end Go.Proofs.YtcmaipijkjillaaDoor
