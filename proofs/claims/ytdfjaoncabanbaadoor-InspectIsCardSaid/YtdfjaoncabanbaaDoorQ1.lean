/- The greatest divisor and lowest terms, by the reference. -/
import Derived.Test.YtdfjaoncabanbaaDoorQ0
set_option linter.unusedVariables false
set_option linter.unusedSimpArgs false
set_option linter.unusedSectionVars false

namespace Go.Proofs.YtdfjaoncabanbaaDoor.Q
open Go Go.AM
set_option maxRecDepth 10000

variable {S:AM.Sys} (hS:Only S 5)
include hS

theorem Gcd_runs (x y:Int) (H:Heap) (hx:0 ≤ x) (hy:0 ≤ y) (hx2:x ≤ 9223372036854775807) (hy2:y ≤ 9223372036854775807):∃ H',Keep H H' ∧ Runs Tryd.prog S (.fn 60) [.int .i64 x,.int .i64 y] H (.int .i64 (Nat.gcd x.toNat y.toNat:Nat)) H':=by
  suffices h:WCall Tryd.prog S (.fn 60) [.int .i64 x,.int .i64 y] H (fun v H' => v = .int .i64 (Nat.gcd x.toNat y.toNat:Nat) ∧ Keep H H') by
    obtain ⟨_,H',hr,rfl,hk⟩:=h; exact ⟨H',hk,hr⟩
  refine Zaaw Tryd.func60 rfl (Nat.le_of_ble_eq_true rfl) (hS.no rfl _ _) ?_
  rw [Tryd.ntmps60,Tryd.results60]
  repeat' simp only [↓Zabo,↓Zabq,↓Zaah,↓Zabl,↓Zabp,↓Zaci,↓Zach,↓Zacn,↓Zaar,↓Zaaj,↓bxOp_un,↓bxOp_max,↓bxPut,↓Zabj,↓Zabh,↓Zacl,↓Zacm,↓Zaba,↓Zaay,Zabf,Nat.reduceLT, *]
  refine sxL_of (fun m ρ H2 => ∃ a b:Int,m = b.toNat ∧ 0 ≤ a ∧ 0 ≤ b ∧ a ≤ 9223372036854775807 ∧ b ≤ 9223372036854775807 ∧ Nat.gcd a.toNat b.toNat = Nat.gcd x.toNat y.toNat ∧ Keep H H2 ∧ ρ 0 = .int .i64 a ∧ ρ 1 = .int .i64 b)
    ⟨x,y,rfl,hx,hy,hx2,hy2,rfl,Keep.refl H,rfl,rfl⟩ ?_
  rintro m ρ H2 ⟨a,b,rfl,ha,hb,ha2,hb2,hG,hK,e0,e1⟩;generalize Nat.gcd x.toNat y.toNat = G at *
  by_cases hb0:b = 0
  · subst hb0;have hG2:(G:Int) = a:=by rw [← hG,show (0:Int).toNat = 0 from rfl,Nat.gcd_zero_right]; omega
    have f1:IntKind.i64.wrap (0 - a) = 0 - a:=IntWalk.i64_in _ (by omega)
    have f2:max a (0 - a) = a:=by omega
    clear hG
    repeat' (first | simp only [↓Zabr,↓Zabm,↓Zabo,↓Zabq,↓Zaag,↓Zabl,↓Zabn,↓Zaci,↓Zach,↓Zacb,↓Zaai,↓Zabz,↓sxDL_assign,↓sxDL_binOp,↓Zacn,↓Zaar,↓Zaaj,↓Zaak,↓bxPut,↓Zabj,↓Zabi,↓Zaaf,↓Zaae,↓Zabe,↓Zabd,↓Zaco,↓Zaba,↓Zaay,Zacj,mm_max,Zaad,Zabc,una_neg,Zacf,↓reduceIte,Nat.reduceEqDiff,Nat.reduceLT,dec_F,and_true,not_true_eq_false, *] | (with_reducible first | refine Zabu (by assumption) (by decide +kernel) ?_ | refine Zabt (by decide +kernel) ?_ | refine Zaca (by decide +kernel) ?_ | refine Zabv ?_))
    rw [if_neg (by omega)]
  · have hm:a.tmod b = a % b:=Int.tmod_eq_emod_of_nonneg ha;have h1:=Int.emod_nonneg a hb0;have h2:=Int.emod_lt_of_pos a (show 0 < b by omega)
    have f1:IntKind.i64.wrap (a % b) = a % b:=IntWalk.i64_in _ (by omega)
    have hg2:Nat.gcd b.toNat (a % b).toNat = G:=by
      rw [← hG,Int.toNat_emod ha hb,Nat.gcd_comm b.toNat (a.toNat % b.toNat),← Nat.gcd_rec,Nat.gcd_comm]
    repeat' (first | simp only [↓Zabr,↓Zabm,↓Zabo,↓Zabq,↓Zaag,↓Zabl,↓Zabn,↓Zaci,↓Zach,↓Zacb,↓Zaai,↓Zabz,↓sxDL_assign,↓sxDL_binOp,↓Zacn,↓Zaar,↓Zaaj,↓Zaak,↓bxPut,↓Zabj,↓Zabi,↓Zaaf,↓Zaae,↓Zabe,↓Zabd,↓Zaco,↓Zaba,↓Zaay,Zacj,Zaad,Zabc,Zacg,↓reduceIte,Nat.reduceEqDiff,Nat.reduceLT,dec_T,size_relow,low_relow,relow_relow,ne_eq,not_false_eq_true, *] | (with_reducible first | refine Zabu (by assumption) (by decide +kernel) ?_ | refine Zabt (by decide +kernel) ?_ | refine Zaca (by decide +kernel) ?_ | refine Zabv ?_))
    refine ⟨_,?_,b,a % b,rfl,hb,h1,hb2,by omega,hg2,?_,rfl,?_⟩
    · omega
    · have z1:min H.low H.size ≤ H2.size:=Nat.le_trans (Nat.min_le_right _ _) hK.size;exact { size:=hK.size,low:=fun _ => Nat.min_le_right _ _,lo:=by repeat' (first | exact hK.lo | exact z1 | refine Nat.le_min.2 ⟨?_,?_⟩),row:=hK.row,grp:=hK.grp,mem:=hK.mem }
    · rfl

theorem Lowest_runs (v:Value) (w:List Int) (d:Int) (r o:Nat) (H:Heap) (hL:H.low ≤ H.size) (hl:SlI .i64 H v w r o) (hp:∀ x ∈ w,0 ≤ x) (hd:0 < d ∧ d ≤ 9223372036854775807):∃ H',Keep H H' ∧ Runs Tryd.prog S (.fn 59) [.agg ⟨[v,.int .i64 d]⟩] H (.bool (decide (gcdAll d w = 1))) H':=by
  suffices h:WCall Tryd.prog S (.fn 59) [.agg ⟨[v,.int .i64 d]⟩] H (fun v H' => v = .bool (decide (gcdAll d w = 1)) ∧ Keep H H') by
    obtain ⟨_,H',hr,rfl,hk⟩:=h; exact ⟨H',hk,hr⟩
  obtain ⟨a,cap,rfl⟩:=hl.v0;obtain ⟨H1,e1,hK1,hz1,rd2,rd0,rd1⟩:=boxP H (.slice a w.length cap) (.int .i64 d);refine Zaaw Tryd.func59 rfl (Nat.le_of_ble_eq_true rfl) (hS.no rfl _ _) ?_
  rw [Tryd.ntmps59,Tryd.results59]
  repeat' simp only [↓Zabo,↓Zabq,↓Zaah,↓Zabl,↓Zabp,↓Zaci,↓Zach,↓Zacn,↓Zaar,↓Zaaj,↓Zaal,↓Zaaq,↓Zaak,↓Zaan,↓bxPut,↓Zabj,↓Zabh,↓Zacl,↓Zacm,↓Zaco,↓Zaba,↓Zaay,Zacj,Zabf,↓reduceIte,Nat.reduceEqDiff,Nat.reduceLT,one1,Option.bind_some, *,argF,List.getD_cons_zero,cells_agg,fldP1,ldI]
  refine sxL_of (fun m ρ H2 => ∃ k:Nat,m = w.length - k ∧ k ≤ w.length ∧ Keep H1 H2 ∧ ρ 1 = .pointer (some ⟨H.size,0,none⟩) ∧ ρ 3 = .int .i64 (gcdAll d (w.take k)) ∧ ρ 4 = .int .i64 k)
    ⟨0,rfl,Nat.zero_le _,Keep.refl _,rfl,rfl,rfl⟩ ?_
  clear e1 rd1 rd2;rintro m ρ H2 ⟨k,rfl,hk,hK,e1,e3,e4⟩;have q0:=hK.read hz1 rd0
  by_cases hlt:k < w.length
  · have hl2:=(hl.keep hK1).keep hK;have hix:=SlI_ix hl2 hlt;have hrd:=(hl2.rdI hlt).1;have hw:=wrap_succ hlt hl.ml;have hlt':(k:Int) < (w.length:Int):=by omega
    have g1:=gcdAll_take d w hlt;have g2:=gcdAll_pos d (w.take k) hd.1;have g3:=hp _ (getD_mem (d:=0) hlt);have g4:w.getD k 0 ≤ 9223372036854775807:=by have:=hl.rng k; have h1:IntKind.i64.max = 9223372036854775807:=rfl; omega
    have hob:=Gcd_runs hS (gcdAll d (w.take k)) (w.getD k 0) H2 (by omega) g3 (by omega) g4
    obtain ⟨H3,hK3,hR3⟩:=hob;rw [← g1] at hR3;have hb3:=hR3.bx;have hK4:=hK.trans hK3;clear hl hl2 hR3 g1 g2 g3 g4
    repeat' simp only [↓Zabr,↓Zabo,↓Zabq,↓Zaag,↓Zabl,↓Zabn,↓Zaci,↓Zach,↓Zacn,↓Zaar,↓Zaaj,↓Zaaq,↓Zaak,↓Zaan,↓Zaao,↓Zaau,↓Zaap,↓bxPut,↓Zabj,↓Zabi,↓Zaaf,↓Zaae,↓Zabe,↓Zabd,↓Zaco,↓Zaba,↓Zaay,↓Zaaz,Zacj,Zaad,Zabc,Zabs,Zacg,List.map,List.nil_append,List.append_nil,↓reduceIte,Nat.reduceEqDiff,Nat.reduceLT,dec_T,true_and,one1,Option.bind_some, *,lenI,ldI,ldIs,fldP0]
    exact ⟨_,by omega,k + 1,rfl,by omega,rfl,rfl⟩
  · have hlt':¬ (k:Int) < (w.length:Int):=by omega
    have g:w.take k = w:=List.take_of_length_le (by omega)
    rw [g] at e3;have hK4:=hK1.trans hK;clear hl
    repeat' simp only [↓Zabr,↓Zabo,↓Zabq,↓Zaag,↓Zabl,↓Zabn,↓Zaci,↓Zach,↓Zacn,↓Zaar,↓Zaaj,↓Zaaq,↓Zaak,↓Zaan,↓Zaao,↓Zaau,↓Zaap,↓bxPut,↓Zabj,↓Zabi,↓Zaaf,↓Zaae,↓Zabe,↓Zabd,↓Zaco,↓Zaba,↓Zaay,↓Zaaz,Zacj,Zaad,Zabc,Zabs,Zacf,List.nil_append,↓reduceIte,Nat.reduceEqDiff,Nat.reduceLT,dec_F,and_self,one1,Option.bind_some, *,lenI,ldIs,fldP0]
end Go.Proofs.YtdfjaoncabanbaaDoor.Q
