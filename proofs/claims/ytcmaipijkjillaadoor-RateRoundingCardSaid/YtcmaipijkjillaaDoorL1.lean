/- Change, by the program. -/
import Derived.Test.YtcmaipijkjillaaDoorK9
set_option linter.unusedVariables false
set_option linter.unusedSimpArgs false
set_option linter.unusedSectionVars false

namespace Go.Proofs.YtcmaipijkjillaaDoor
open Go Go.AM
set_option maxRecDepth 10000

def stepA (l:List Off) (i a:Int):Int:=a * (l.getD i.toNat default).n / (l.getD i.toNat default).d
def chgL (l:List Off):List Int → Int → Int × Int
  | [],a => (a,0)
  | i :: ws,a => if 1099511627776 < stepA l i a then (0,4) else chgL l ws (stepA l i a)
theorem chgL_step {l:List Off} {w:List Int} {k:Nat} (h:k < w.length) (a:Int) :
    chgL l (w.drop k) a = if 1099511627776 < stepA l (w.getD k 0) a then (0,4) else chgL l (w.drop (k + 1)) (stepA l (w.getD k 0) a):=by
  rw [List.drop_eq_getElem_cons h,List.getD_eq_getElem?_getD,List.getElem?_eq_getElem h];rfl
theorem chgL_err {l:List Off}:∀ (w:List Int) (a:Int),(chgL l w a).2 ≠ 0 → (chgL l w a).1 = 0
  | [],a,h => absurd rfl h
  | i :: ws,a,h => by
    unfold chgL at h ⊢;split
    · rfl
    · rename_i h1;rw [if_neg h1] at h;exact chgL_err ws _ h
def ArgC (n:Int) (l:List Off) (w:List Int) (am:Int):Prop:=chk n l = 0 ∧ w.length ≤ 20 ∧ WkOk l w ∧ 0 ≤ am ∧ am ≤ 1099511627776
def PostC (n:Int) (l:List Off) (w:List Int) (am:Int) (H:Heap) (u:Value) (H':Heap):Prop:=
  ∃ p e,u = .tuple ⟨[.int .i64 p,.int .i64 e]⟩ ∧ Keep H H' ∧ (e ≠ 0 → p = 0) ∧ (e = 0 → ArgC n l w am) ∧ (ArgC n l w am → chgL l w am = (p,e))
theorem step_le {a n d:Int} (ha:0 ≤ a ∧ a ≤ 1099511627776) (hn:1 ≤ n ∧ n ≤ 50) (hd:1 ≤ d ∧ d ≤ 50):(0 ≤ a * n ∧ a * n ≤ 54975581388800) ∧ (0 ≤ a * n / d ∧ a * n / d ≤ 54975581388800) ∧ a * n / d * d ≤ a * n:=by
  have h1:0 ≤ a * n:=Int.mul_nonneg ha.1 (by omega)
  have h2:a * n ≤ 1099511627776 * 50:=Int.mul_le_mul ha.2 hn.2 (by omega) (by omega)
  have h3:0 ≤ a * n / d:=Int.ediv_nonneg h1 (by omega)
  have h4:a * n / d ≤ a * n:=Int.ediv_le_self _ h1;exact ⟨⟨h1,by omega⟩,⟨h3,by omega⟩,Int.ediv_mul_le _ (by omega)⟩

variable {S:AM.Sys} (hS:Only S 6)
include hS

set_option maxHeartbeats 4000000 in
theorem Change_runs (n:Int) (l:List Off) (w:List Int) (am:Int) (vl vw:Value) (r o r' o':Nat) (H:Heap) (hL:H.low ≤ H.size) (hl:SlO H vl l r o) (hw:SlI .i64 H vw w r' o') :
    ∃ u H',Runs Tryd.prog S (.fn 11) [.int .i64 n,vl,vw,.int .i64 am] H u H' ∧ PostC n l w am H u H':=by
  suffices h:WCall Tryd.prog S (.fn 11) [.int .i64 n,vl,vw,.int .i64 am] H (fun u H' => PostC n l w am H u H') by
    obtain ⟨u,H',hr,h⟩:=h; exact ⟨u,H',hr,h⟩
  obtain ⟨H1,k1,R1⟩:=check_runs hS n vl l r o H hl;obtain ⟨a,cap,rfl⟩:=hl.v0;obtain ⟨a',cap',rfl⟩:=hw.v0;have f1:=R1.bx;have l1:=k1.low hL;obtain ⟨bb,R2,hbb⟩:=isWalk_runs hS l w _ _ r o r' o' H1 l1 (hl.keep k1) (hw.keep k1);have f2:=R2.bx;refine call_of Tryd.func11 rfl (Nat.le_of_ble_eq_true rfl) (hS.no rfl _ _) ?_
  rw [Tryd.ntmps11,Tryd.results11]
  by_cases hck:chk n l = 0
  case neg =>
    have hpo:PostC n l w am H (.tuple ⟨[.int .i64 0,.int .i64 (chk n l)]⟩) H1:=⟨0,_,rfl,k1,fun _ => rfl,fun h => absurd h hck,fun h => absurd h.1 hck⟩
    generalize chk n l = e at *;clear hl hw R1 R2 k1 hbb
    repeat' simp only [↓Zabr,↓Zabo,↓Zabq,↓Zaah,↓bxC_loop,↓Zabl,↓Zabp,↓Zacj,↓Zaci,↓Zaco,↓Zaav,↓Zaar,↓Zaak,↓Zaas,↓Zaal,↓bxOp_un,↓Zaau,↓Zaap,↓bxPut,↓Zabj,↓Zabk,↓Zabh,↓Zacm,↓Zacn,↓Zacp,↓Zaaz,↓Zaax,↓Zaay,↓dstAt,↓Zaba,Zack,Zaad,Zabb,Zabs,Zach,Zabf,List.map,List.nil_append,List.append_nil,↓reduceIte,Nat.reduceEqDiff,Nat.reduceLT,dec_T,not_false_eq_true, *,argF,List.getD_cons_zero,List.getD_cons_succ,Zabf]
  rw [hck] at f1;have ba:¬ ArgC n l w am → PostC n l w am H (.tuple ⟨[.int .i64 0,.int .i64 2]⟩) H1:=fun h => ⟨0,2,rfl,k1,fun _ => rfl,fun h => absurd h (by decide),fun h1 => absurd h1 h⟩
  by_cases h20:20 < (w.length:Int)
  · have hpo:=ba (fun h => by have:=h.2.1; omega)
    clear hl hw R1 R2 k1 hbb ba hck
    repeat' simp only [↓Zabr,↓Zabo,↓Zabq,↓Zaah,↓bxC_loop,↓Zabl,↓Zabp,↓Zacj,↓Zaci,↓Zaco,↓Zaav,↓Zaar,↓Zaak,↓Zaas,↓Zaal,↓bxOp_un,↓Zaau,↓Zaap,↓bxPut,↓Zabj,↓Zabk,↓Zabh,↓Zacm,↓Zacn,↓Zacp,↓Zaaz,↓Zaax,↓Zaay,↓dstAt,↓Zaba,Zack,Zaad,Zabb,Zaac,Zabs,sxGuardB_ft,Zach,Zacg,Zabf,List.map,List.nil_append,List.append_nil,↓reduceIte,Nat.reduceEqDiff,Nat.reduceLT,dec_T,dec_F,not_true_eq_false, *,argF,List.getD_cons_zero,List.getD_cons_succ,lenI,Zabf]
  cases hbv:bb with
  | false =>
    rw [hbv] at f2 hbb;have hpo:=ba (fun h => by have:=hbb.2 h.2.2.1; cases this)
    clear hl hw R1 R2 k1 hbb ba hck
    repeat' simp only [↓Zabr,↓Zabo,↓Zabq,↓Zaah,↓bxC_loop,↓Zabl,↓Zabp,↓Zacj,↓Zaci,↓Zaco,↓Zaav,↓Zaar,↓Zaak,↓Zaas,↓Zaal,↓bxOp_un,↓Zaau,↓Zaap,↓bxPut,↓Zabj,↓Zabk,↓Zabh,↓Zacm,↓Zacn,↓Zacp,↓Zaaz,↓Zaax,↓Zaay,↓dstAt,↓Zaba,Zack,Zaad,Zabb,una_nf,Zaac,Zaab,Zabs,sxGuardB_ft,Zacd,Zach,Zacg,Zabf,List.map,List.nil_append,List.append_nil,↓reduceIte,Nat.reduceEqDiff,Nat.reduceLT,dec_F,not_true_eq_false, *,argF,List.getD_cons_zero,List.getD_cons_succ,lenI,Zabf]
  | true =>
  rw [hbv] at f2 hbb;have hwk:WkOk l w:=hbb.1 rfl
  by_cases ha0:am < 0
  · have hpo:=ba (fun h => by have:=h.2.2.2.1; omega)
    clear hl hw R1 R2 k1 hbb ba hck hwk hbv
    repeat' simp only [↓Zabr,↓Zabo,↓Zabq,↓Zaah,↓bxC_loop,↓Zabl,↓Zabp,↓Zacj,↓Zaci,↓Zaco,↓Zaav,↓Zaar,↓Zaak,↓Zaas,↓Zaal,↓bxOp_un,↓Zaau,↓Zaap,↓bxPut,↓Zabj,↓Zabk,↓Zabh,↓Zacm,↓Zacn,↓Zacp,↓Zaaz,↓Zaax,↓Zaay,↓dstAt,↓Zaba,Zack,Zaad,Zabb,una_nt,Zaac,Zaab,Zabs,sxGuardB_ft,Zacd,Zach,Zacg,Zabf,List.map,List.nil_append,List.append_nil,↓reduceIte,Nat.reduceEqDiff,Nat.reduceLT,dec_T,dec_F,not_true_eq_false, *,argF,List.getD_cons_zero,List.getD_cons_succ,lenI,Zabf]
  by_cases ha1:1099511627776 < am
  · have hpo:=ba (fun h => by have:=h.2.2.2.2; omega)
    clear hl hw R1 R2 k1 hbb ba hck hwk hbv
    repeat' simp only [↓Zabr,↓Zabo,↓Zabq,↓Zaah,↓bxC_loop,↓Zabl,↓Zabp,↓Zacj,↓Zaci,↓Zaco,↓Zaav,↓Zaar,↓Zaak,↓Zaas,↓Zaal,↓bxOp_un,↓Zaau,↓Zaap,↓bxPut,↓Zabj,↓Zabk,↓Zabh,↓Zacm,↓Zacn,↓Zacp,↓Zaaz,↓Zaax,↓Zaay,↓dstAt,↓Zaba,Zack,Zaad,Zabb,una_nt,Zaab,Zabs,Zacd,Zach,Zacg,Zabf,List.map,List.nil_append,List.append_nil,↓reduceIte,Nat.reduceEqDiff,Nat.reduceLT,dec_T,dec_F,not_true_eq_false, *,argF,List.getD_cons_zero,List.getD_cons_succ,lenI,Zabf]
  have harg:ArgC n l w am:=⟨hck,by omega,hwk,by omega,by omega⟩
  have gd:∀ p e,chgL l w am = (p,e) → PostC n l w am H (.tuple ⟨[.int .i64 p,.int .i64 e]⟩) H1:=fun p e h => ⟨p,e,rfl,k1,fun he => by have:=chgL_err (l:=l) w am; rw [h] at this; exact this he,fun _ => harg,fun _ => h⟩
  have ham:0 ≤ am ∧ am ≤ 1099511627776:=by omega
  have hl1:=hl.keep k1;have hw1:=hw.keep k1;have hrng:=fun k (hk:k < w.length) => wk_off hck hwk hk
  clear R1 R2 k1 hbb ba hbv harg
  repeat' simp only [↓Zabr,↓Zabo,↓Zabq,↓Zaah,↓bxC_loop,↓Zabl,↓Zabp,↓Zacj,↓Zaci,↓Zaco,↓Zaav,↓Zaar,↓Zaak,↓Zaas,↓Zaal,↓bxOp_un,↓Zaau,↓Zaap,↓bxPut,↓Zabj,↓Zabk,↓Zabh,↓Zacm,↓Zacn,↓Zacp,↓Zaaz,↓Zaax,↓Zaay,↓dstAt,↓Zaba,Zack,Zaad,Zabb,una_nt,Zaab,Zabs,Zacd,Zacg,Zabf,List.map,List.nil_append,List.append_nil,↓reduceIte,Nat.reduceEqDiff,Nat.reduceLT,dec_F,not_true_eq_false, *,argF,List.getD_cons_zero,List.getD_cons_succ,lenI]
  clear f1 f2;refine sxL_of (fun m ρ X => ∃ (k:Nat) (c:Int),m = w.length - k ∧ k ≤ w.length ∧ X = H1 ∧ (0 ≤ c ∧ c ≤ 1099511627776) ∧ chgL l w am = chgL l (w.drop k) c ∧ ρ 1 = .slice a l.length cap ∧ ρ 3 = .int .i64 c ∧ ρ 36 = .slice a' w.length cap' ∧ ρ 37 = .int .i64 (w.length:Int) ∧ ρ 38 = .int .i64 (k:Int))
    ⟨0,am,rfl,Nat.zero_le _,rfl,ham,rfl,rfl,rfl,rfl,rfl,rfl⟩ ?_
  rintro m ρ X ⟨k,c,rfl,hk,rfl,hc,hch,e1,e3,e36,e37,e38⟩;have hml:=hw.ml
  by_cases hkw:k < w.length
  case neg =>
    have hlt:¬ (k:Int) < (w.length:Int):=by omega
    have hke:k = w.length:=by omega
    rw [hke,List.drop_length] at hch;have hpo:=gd c 0 hch;clear hl hw hl1 hw1 hrng hwk hck hke hkw hk gd hch
    repeat' (first | simp only [↓Zabr,↓Zabm,↓Zabo,↓Zabq,↓Zaah,↓Zabl,↓Zabn,↓Zabp,↓Zacj,↓Zaci,↓Zacc,↓Zaai,↓Zaca,↓sxDL_assign,↓Zabz,↓Zabv,↓Zabx,↓Zaby,↓Zaco,↓Zaar,↓Zaak,↓Zaaq,↓Zaal,↓Zaan,↓Zaao,↓bxPut,↓Zabj,↓Zabi,↓Zabk,↓Zaaf,↓Zaag,↓Zaae,↓Zabd,↓Zabc,↓loopQ_ret,↓Zabh,↓Zacm,↓Zacn,↓Zacp,↓Zaaz,↓Zaax,Zack,Zaad,Zabb,Zacg,Zabf,↓reduceIte,Nat.reduceEqDiff,Nat.reduceLT,dec_F, *,Zabf] | (with_reducible first | refine Zabu (by assumption) (by decide +kernel) ?_ | refine Zabt (by decide +kernel) ?_ | refine Zacb (by decide +kernel) ?_ | refine Zabw ?_))
  have hlt:(k:Int) < (w.length:Int):=by omega
  have hwi:=wrap_succ hkw hml;have ixk:=SlI_ix' hw1 hkw;have rdk:=(hw1.rdI hkw).1;obtain ⟨j1,-,-,-⟩:=wk_at hl1 (hwk.1 k hkw);obtain ⟨-,-,-,i2,i3⟩:=off_at hl1 (show (w.getD k 0).toNat < l.length by have:=hwk.1 k hkw; omega)
  obtain ⟨-,-,hr1⟩:=hrng k hkw;have hs:=step_le hc (n:=(offW l w k).n) (d:=(offW l w k).d) (by omega) (by omega)
  have hst:stepA l (w.getD k 0) c = c * (offW l w k).n / (offW l w k).d:=rfl;rw [chgL_step hkw c,hst] at hch;have j2:X.read r (o + (w.getD k 0).toNat * 4 + 2) 1 = some [.int .i64 (offW l w k).n]:=i2;have j3:X.read r (o + (w.getD k 0).toNat * 4 + 3) 1 = some [.int .i64 (offW l w k).d]:=i3;have hd0:(offW l w k).d ≠ 0:=by omega
  have hq:(c * (offW l w k).n).tdiv (offW l w k).d = c * (offW l w k).n / (offW l w k).d:=Int.tdiv_eq_ediv_of_nonneg hs.1.1;obtain ⟨q,hqE⟩:∃ q,c * (offW l w k).n / (offW l w k).d = q:=⟨_,rfl⟩;rw [hqE] at hs hch hq;have hm1:=IntWalk.i64_in (c * (offW l w k).n) (by omega)
  have hm2:=IntWalk.i64_in q (by omega)
  clear hl hw hl1 hw1 hrng hwk hck hk hr1 hst hqE i2 i3;obtain ⟨⟨s1,s2⟩,⟨s3,s4⟩,-⟩:=hs;generalize (offW l w k).n = nn at *;generalize (offW l w k).d = dd at *
  by_cases hov:1099511627776 < q
  · rw [if_pos hov] at hch;have hpo:=gd 0 4 hch;clear gd hch
    repeat' (first | simp only [↓Zabr,↓Zabm,↓Zabo,↓Zabq,↓Zaah,↓Zabl,↓Zabn,↓Zabp,↓Zacj,↓Zaci,↓Zacc,↓Zaai,↓Zaca,↓sxDL_assign,↓Zabz,↓Zabv,↓Zabx,↓Zaby,↓sxD_same,↓Zaco,↓Zaar,↓Zaak,↓Zaaq,↓Zaal,↓Zaan,↓Zaao,↓bxPut,↓Zabj,↓Zabi,↓Zabk,↓Zaaf,↓Zaag,↓Zaae,↓Zabd,↓Zabc,↓loopQ_ret,↓Zabh,↓Zacm,↓Zacn,↓Zacp,↓Zaaz,↓Zaax,Zack,Zaad,Zabb,Zach,Zabf,↓reduceIte,Nat.reduceEqDiff,Nat.reduceLT,dec_T,Zaaa,one1,Option.bind_some,ne_eq,not_false_eq_true, *,ldI,faO2,faO3,Zabf] | (with_reducible first | refine Zabu (by assumption) (by decide +kernel) ?_ | refine Zabt (by decide +kernel) ?_ | refine Zacb (by decide +kernel) ?_ | refine Zabw ?_))
  · rw [if_neg hov] at hch;clear gd
    repeat' (first | simp only [↓Zabr,↓Zabm,↓Zabo,↓Zabq,↓Zaah,↓Zabl,↓Zabn,↓Zabp,↓Zacj,↓Zaci,↓Zacc,↓Zaai,↓Zaca,↓sxDL_assign,↓Zabz,↓Zabv,↓Zabx,↓Zaby,↓sxD_same,↓Zaco,↓Zaar,↓Zaak,↓Zaaq,↓Zaal,↓Zaan,↓Zaao,↓bxPut,↓Zabj,↓Zabi,↓Zabk,↓Zaaf,↓Zaag,↓Zaae,↓Zabd,↓Zabc,↓loopQ_ret,↓Zabh,↓Zacm,↓Zacn,↓Zacp,↓Zaaz,↓Zaax,Zack,Zaad,Zabb,Zach,Zacg,Zabf,↓reduceIte,Nat.reduceEqDiff,Nat.reduceLT,dec_T,dec_F,true_and,Zaaa,one1,Option.bind_some,ne_eq,not_false_eq_true, *,ldI,faO2,faO3,Zabf] | (with_reducible first | refine Zabu (by assumption) (by decide +kernel) ?_ | refine Zabt (by decide +kernel) ?_ | refine Zacb (by decide +kernel) ?_ | refine Zabw ?_))
    exact ⟨w.length - (k + 1),by omega,k + 1,q,rfl,by omega,by omega,rfl,rfl,rfl⟩
end Go.Proofs.YtcmaipijkjillaaDoor
