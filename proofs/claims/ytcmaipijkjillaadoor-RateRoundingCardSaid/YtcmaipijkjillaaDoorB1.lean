/- Whole numbers of any size, as the reference keeps them: digits without the highest ones that are 0, and digits compared, on the canonical machine. -/
import Derived.Test.YtcmaipijkjillaaDoorProg
import Derived.KernelRfl
import Derived.Test.YtcmaipijkjillaaDoorGk
set_option linter.unusedVariables false
set_option linter.unusedSimpArgs false
set_option linter.unusedSectionVars false

namespace Go.Proofs.YtcmaipijkjillaaDoor
open Go Go.AM
set_option maxRecDepth 10000

/-! The words of the program. -/
theorem ldI (H:Heap) (r o:Nat):aLoad Tryd.prog H 3 (.pointer (some ⟨r,o,none⟩)) = (H.read r o 1).bind one1:=by kernel_rfl
theorem ldIs (H:Heap) (r o:Nat):aLoad Tryd.prog H 23 (.pointer (some ⟨r,o,none⟩)) = (H.read r o 1).bind one1:=by kernel_rfl
theorem lenI (a:Option Addr) (n c:Nat):aLen Tryd.prog #[23] (.slice a n c) = some (.int .i64 n):=by kernel_rfl
theorem ixI (r o n c:Nat) (k:IntKind) (i:Int):aIndexAt Tryd.prog 23 (.slice (some ⟨r,o,none⟩) n c) (.int k i) = if 0 ≤ i ∧ i < (n:Int) then some (.pointer (some ⟨r,o + i.toNat * 1,none⟩)) else none:=by kernel_rfl
theorem SlI_ix {H:Heap} {w:List Int} {r o:Nat} {a:Option Addr} {cap:Nat} (h:SlI .i64 H (.slice a w.length cap) w r o) {k:Nat} (h1:k < w.length) :
    aIndexAt Tryd.prog 23 (.slice a w.length cap) (.int .i64 (k:Int)) = some (.pointer (some ⟨r,o + k,none⟩)):=by
  obtain ⟨a',cap',e,ha⟩:=h.isv;cases e;rw [ha (by omega),ixI,if_pos ⟨by omega,by omega⟩,Int.toNat_natCast,Nat.mul_one]
theorem bsI (H:Heap) (z:Int):aBuildSlice Tryd.prog H 23 1 [(0,.int .i64 z)] = some (.slice (some ⟨H.size,0,none⟩) 1 1,H.newExact [.int .i64 z] 3):=by kernel_rfl
theorem okI:ElemOk Tryd.prog #[23,23] 3 1:=⟨⟨23,23,_,Tryd.t3,.int .i64 0,rfl,rfl,Tryd.underlying23,Tryd.underlying23,rfl,by kernel_rfl,by kernel_rfl,by kernel_rfl,by kernel_rfl,of_decide_eq_true (by kernel_rfl)⟩,by omega⟩
theorem infoI:∃ i z,Tryd.prog.info? 3 = some i ∧ i.size = 1 ∧ i.zero = some z ∧ plain z = true ∧ z.cells.toList.length = 1 ∧ i.bytes ≤ 65536:=⟨Tryd.t3,.int .i64 0,by kernel_rfl,by kernel_rfl,by kernel_rfl,by kernel_rfl,by kernel_rfl,of_decide_eq_true (by kernel_rfl)⟩
theorem nilSl (H:Heap):SlI .i64 H (.slice none 0 0) [] 0 0:=⟨⟨none,0,rfl,fun h => absurd h (Nat.lt_irrefl 0)⟩,fun i hi => absurd hi (Nat.not_lt_zero i),fun h => absurd h (Nat.lt_irrefl 0),Nat.zero_le _⟩

def Out (S:AM.Sys) (f:FuncId) (args:List Value) (H:Heap) (w:List Int):Prop:=∃ H' v' r' o',Keep H H' ∧ Grp H' ∧ SlI .i64 H' v' w r' o' ∧ Fine v' ∧ (0 < w.length → H.size ≤ r') ∧ Runs Tryd.prog S (.fn f) args H v' H'
theorem out_of {S:AM.Sys} {f:FuncId} {args:List Value} {H:Heap} {w:List Int} (h:WCall Tryd.prog S (.fn f) args H (fun v H' => ∃ r' o',Keep H H' ∧ Grp H' ∧ SlI .i64 H' v w r' o' ∧ Fine v ∧ (0 < w.length → H.size ≤ r'))):Out S f args H w:=by
  obtain ⟨v',H',hr,r',o',h1,h2,h3,h4,h5⟩:=h;exact ⟨H',v',r',o',h1,h2,h3,h4,h5,hr⟩

variable {S:AM.Sys} (hS:Only S 6)
include hS

theorem trim_runs (v:Value) (d:List Int) (r o:Nat) (H:Heap) (hg:Grp H) (hL:H.low ≤ H.size) (hd:SlI .i64 H v d r o) (hs:d.length ≤ 100000):Out S 65 [v] H (trimL d):=by
  refine out_of ?_
  obtain ⟨a,cap,rfl⟩:=hd.v0;have hml:=hd.ml;have hmx:Go.maxLen = 9223372036854775807:=rfl;refine call_of Tryd.func65 rfl (Nat.le_of_ble_eq_true rfl) (hS.no rfl _ _) ?_
  rw [Tryd.ntmps65,Tryd.results65]
  repeat' (first | (with_reducible refine Zacf (fun h => ?_) (fun h => ?_)) | (with_reducible refine Zace (fun h => ?_) (fun h => ?_)) | (with_reducible refine sxIfB_sp (fun h => ?_) (fun h => ?_)) | simp only [↓Zabo,↓Zabq,↓bxC_loop,↓Zabl,↓Zabp,↓Zacj,↓Zaci,↓Zaco,↓Zaar,↓Zaak,↓Zaap,↓bxPut,↓Zabj,↓Zabh,↓Zacm,↓Zacn,↓Zacp,↓Zaaz,↓Zaax,Zack,Zabe,↓reduceIte,Nat.reduceEqDiff,Nat.reduceLT, *,argF,List.getD_cons_zero,lenI])
  refine sxL_of (fun m ρ H1 => m ≤ d.length ∧ trimN d m = trimN d d.length ∧ H1 = H ∧ ρ 0 = .slice a d.length cap ∧ ρ 3 = .int .i64 (m:Int)) ⟨Nat.le_refl _,rfl,rfl,rfl,rfl⟩ ?_
  rintro m ρ H1 ⟨hm,htr,rfl,e0,e3⟩;cases m with
  | zero =>
    have ht0:trimN d d.length = 0:=htr.symm;have h00:¬ (0:Int) < ((0:Nat):Int):=by omega
    have hT:trimL d = d.take 0:=by unfold trimL; rw [ht0]
    rw [hT];clear htr hT ht0
    repeat' (first | (with_reducible refine Zacf (fun h => ?_) (fun h => ?_)) | (with_reducible refine Zace (fun h => ?_) (fun h => ?_)) | (with_reducible refine sxIfB_sp (fun h => ?_) (fun h => ?_)) | simp only [↓Zabr,↓Zabo,↓Zabq,↓Zaah,↓Zabl,↓Zabn,↓Zacj,↓Zaci,↓Zaco,↓Zaav,↓Zaar,↓Zaak,↓Zaas,↓Zaaq,↓Zaal,↓Zaao,↓bxPut,↓Zabj,↓Zabi,↓Zaaf,↓Zaae,↓Zabd,↓Zabc,↓Zacp,↓Zaaz,↓Zaax,↓dstAt,↓Zaba,Zack,Zaad,Zabb,Zaab,sxGuardB_tf,Zacg,↓reduceIte,Nat.reduceEqDiff,Nat.reduceLT,dec_F, *])
    refine sxL_of (fun q ρ H2 => ∃ (i:Nat) (v':Value),q = 0 - i ∧ i ≤ 0 ∧ Lst 3 .i64 H1 H2 v' (d.take i) ∧ ρ 0 = .slice a d.length cap ∧ ρ 3 = .int .i64 ((0:Nat):Int) ∧ ρ 4 = v' ∧ ρ 5 = .int .i64 i)
      ⟨0,_,rfl,Nat.zero_le _,Lst.nil (Keep.refl H1) hg,by assumption,by assumption,rfl,rfl⟩ ?_
    clear e0 e3;rintro q ρ H2 ⟨i,v',rfl,hi,L,e0,e3,e4,e5⟩
    by_cases hlt:i < 0
    · have hlt':(i:Int) < ((0:Nat):Int):=by omega
      have hid:i < d.length:=by omega
      have p1:=SlI_ix hd hid;have p2:=((hd.keep L.keep).rdI hid).1;have hw:=wrap_succ hid hml;have hob1:=L.push okI hg (by rw [List.length_take]; omega) (d.getD i 0)
      obtain ⟨v3,H3,p3,L3⟩:=hob1;have b1:=bsI H2 (d.getD i 0);have hts:d.take i ++ [d.getD i 0] = d.take (i + 1):=by rw [List.take_add_one,List.getElem?_eq_getElem hid,List.getD_eq_getElem?_getD,List.getElem?_eq_getElem hid]; rfl
      rw [hts] at L3;clear hd hts
      repeat' (first | (with_reducible refine Zacf (fun h => ?_) (fun h => ?_)) | (with_reducible refine Zace (fun h => ?_) (fun h => ?_)) | (with_reducible refine sxIfB_sp (fun h => ?_) (fun h => ?_)) | simp only [↓Zabr,↓Zabo,↓Zabq,↓Zaah,↓Zabl,↓Zabn,↓Zacj,↓Zaci,↓Zaco,↓Zaar,↓Zaak,↓Zaam,↓Zaaq,↓Zaal,↓Zaao,↓bxOp_append,↓bxPut,↓Zabj,↓Zabi,↓Zaaf,↓Zaae,↓Zabd,↓Zabc,↓Zacp,↓Zaaz,↓Zaax,Zack,Zaad,Zabb,Zach,List.map,↓reduceIte,Nat.reduceEqDiff,Nat.reduceLT,dec_T,true_and,one1,Option.bind_some, *,ldI])
      exact ⟨_,by omega,i + 1,_,rfl,by omega,L3,rfl,rfl⟩
    · have hlt':¬ (i:Int) < ((0:Nat):Int):=by omega
      have hie:i = 0:=by omega
      have hob2:=L.slF (fun z hz => by
        obtain ⟨j,hj,rfl⟩:=List.getElem_of_mem (List.mem_of_mem_take hz);have:=(hd.rdI hj).2
        rwa [List.getD_eq_getElem?_getD,List.getElem?_eq_getElem hj] at this) (by rw [List.length_take]; omega)
      rw [hie] at hob2;obtain ⟨rr,sl,hfr⟩:=hob2;have hgL:=L.grp;have hF:=L.fine;have hKL:=L.keep;clear hd hie
      repeat' (first | (with_reducible refine Zacf (fun h => ?_) (fun h => ?_)) | (with_reducible refine Zace (fun h => ?_) (fun h => ?_)) | (with_reducible refine sxIfB_sp (fun h => ?_) (fun h => ?_)) | simp only [↓Zabr,↓Zabo,↓Zabq,↓Zaah,↓Zabl,↓Zabn,↓Zacj,↓Zaci,↓Zaco,↓Zaar,↓Zaak,↓Zaam,↓Zaaq,↓Zaal,↓Zaao,↓bxOp_append,↓bxPut,↓Zabj,↓Zabi,↓Zaaf,↓Zaae,↓Zabd,↓Zabc,↓Zacp,↓Zaaz,↓Zaax,Zack,Zaad,Zabb,Zacg,↓reduceIte,Nat.reduceEqDiff,Nat.reduceLT,dec_F,true_and, *])
      exact ⟨rr,0,sl,hfr⟩
  | succ m =>
    have hlt:m < d.length:=by omega
    have p1:=SlI_ix hd hlt;have p2:=(hd.rdI hlt).1;have hp:(0:Int) < ((m + 1:Nat):Int):=by omega
    have hw:IntKind.i64.wrap (((m + 1:Nat):Int) - 1) = (m:Int):=by rw [IntWalk.i64_in _ (by omega)]; omega
    by_cases hz:d.getD m 0 = 0
    · have htr2:trimN d m = trimN d d.length:=by rw [← htr]; conv => rhs; unfold trimN; rw [if_pos hz]
      clear hd htr
      repeat' (first | (with_reducible refine Zacf (fun h => ?_) (fun h => ?_)) | (with_reducible refine Zace (fun h => ?_) (fun h => ?_)) | (with_reducible refine sxIfB_sp (fun h => ?_) (fun h => ?_)) | simp only [↓Zabr,↓Zabo,↓Zabq,↓Zaah,↓Zabl,↓Zabn,↓Zacj,↓Zaci,↓Zaco,↓Zaav,↓Zaar,↓Zaak,↓Zaas,↓Zaaq,↓Zaal,↓Zaao,↓bxPut,↓Zabj,↓Zabi,↓Zaaf,↓Zaae,↓Zabd,↓Zabc,↓Zacp,↓Zaaz,↓Zaax,↓dstAt,↓Zaba,Zack,Zaad,Zabb,Zaac,sxGuardB_tt,Zach,↓reduceIte,Nat.reduceEqDiff,Nat.reduceLT,dec_T,true_and,one1,Option.bind_some, *,ldI])
      exact ⟨m,by omega,by omega,htr2,rfl⟩
    · have htr2:trimN d d.length = m + 1:=by rw [← htr]; conv => lhs; unfold trimN; rw [if_neg hz]
      have hT:trimL d = d.take (m + 1):=by unfold trimL; rw [htr2]
      rw [hT];clear htr hT htr2
      repeat' (first | (with_reducible refine Zacf (fun h => ?_) (fun h => ?_)) | (with_reducible refine Zace (fun h => ?_) (fun h => ?_)) | (with_reducible refine sxIfB_sp (fun h => ?_) (fun h => ?_)) | simp only [↓Zabr,↓Zabo,↓Zabq,↓Zaah,↓Zabl,↓Zabn,↓Zacj,↓Zaci,↓Zaco,↓Zaav,↓Zaar,↓Zaak,↓Zaas,↓Zaaq,↓Zaal,↓Zaao,↓bxPut,↓Zabj,↓Zabi,↓Zaaf,↓Zaae,↓Zabd,↓Zabc,↓Zacp,↓Zaaz,↓Zaax,↓dstAt,↓Zaba,Zack,Zaad,Zabb,Zaac,sxGuardB_tt,Zacg,↓reduceIte,Nat.reduceEqDiff,Nat.reduceLT,dec_T,dec_F,one1,Option.bind_some, *,ldI])
      refine sxL_of (fun q ρ H2 => ∃ (i:Nat) (v':Value),q = (m + 1) - i ∧ i ≤ (m + 1) ∧ Lst 3 .i64 H1 H2 v' (d.take i) ∧ ρ 0 = .slice a d.length cap ∧ ρ 3 = .int .i64 (((m + 1):Nat):Int) ∧ ρ 4 = v' ∧ ρ 5 = .int .i64 i)
        ⟨0,_,rfl,Nat.zero_le _,Lst.nil (Keep.refl H1) hg,by assumption,by assumption,rfl,rfl⟩ ?_
      clear e0 e3;rintro q ρ H2 ⟨i,v',rfl,hi,L,e0,e3,e4,e5⟩
      by_cases hlt:i < (m + 1)
      · have hlt':(i:Int) < (((m + 1):Nat):Int):=by omega
        have hid:i < d.length:=by omega
        have p1:=SlI_ix hd hid;have p2:=((hd.keep L.keep).rdI hid).1;have hw:=wrap_succ hid hml;have hob1:=L.push okI hg (by rw [List.length_take]; omega) (d.getD i 0)
        obtain ⟨v3,H3,p3,L3⟩:=hob1;have b1:=bsI H2 (d.getD i 0);have hts:d.take i ++ [d.getD i 0] = d.take (i + 1):=by rw [List.take_add_one,List.getElem?_eq_getElem hid,List.getD_eq_getElem?_getD,List.getElem?_eq_getElem hid]; rfl
        rw [hts] at L3;clear hd hts
        repeat' (first | (with_reducible refine Zacf (fun h => ?_) (fun h => ?_)) | (with_reducible refine Zace (fun h => ?_) (fun h => ?_)) | (with_reducible refine sxIfB_sp (fun h => ?_) (fun h => ?_)) | simp only [↓Zabr,↓Zabo,↓Zabq,↓Zaah,↓Zabl,↓Zabn,↓Zacj,↓Zaci,↓Zaco,↓Zaar,↓Zaak,↓Zaam,↓Zaaq,↓Zaal,↓Zaao,↓bxOp_append,↓bxPut,↓Zabj,↓Zabi,↓Zaaf,↓Zaae,↓Zabd,↓Zabc,↓Zacp,↓Zaaz,↓Zaax,Zack,Zaad,Zabb,Zach,List.map,↓reduceIte,Nat.reduceEqDiff,Nat.reduceLT,dec_T,true_and,one1,Option.bind_some, *,ldI])
        exact ⟨_,by omega,i + 1,_,rfl,by omega,L3,rfl,rfl⟩
      · have hlt':¬ (i:Int) < (((m + 1):Nat):Int):=by omega
        have hie:i = (m + 1):=by omega
        have hob2:=L.slF (fun z hz => by
          obtain ⟨j,hj,rfl⟩:=List.getElem_of_mem (List.mem_of_mem_take hz);have:=(hd.rdI hj).2
          rwa [List.getD_eq_getElem?_getD,List.getElem?_eq_getElem hj] at this) (by rw [List.length_take]; omega)
        rw [hie] at hob2;obtain ⟨rr,sl,hfr⟩:=hob2;have hgL:=L.grp;have hF:=L.fine;have hKL:=L.keep;clear hd hie
        repeat' (first | (with_reducible refine Zacf (fun h => ?_) (fun h => ?_)) | (with_reducible refine Zace (fun h => ?_) (fun h => ?_)) | (with_reducible refine sxIfB_sp (fun h => ?_) (fun h => ?_)) | simp only [↓Zabr,↓Zabo,↓Zabq,↓Zaah,↓Zabl,↓Zabn,↓Zacj,↓Zaci,↓Zaco,↓Zaar,↓Zaak,↓Zaam,↓Zaaq,↓Zaal,↓Zaao,↓bxOp_append,↓bxPut,↓Zabj,↓Zabi,↓Zaaf,↓Zaae,↓Zabd,↓Zabc,↓Zacp,↓Zaaz,↓Zaax,Zack,Zaad,Zabb,Zacg,↓reduceIte,Nat.reduceEqDiff,Nat.reduceLT,dec_F,true_and, *])
        exact ⟨rr,0,sl,hfr⟩

theorem cmpD_runs (v1 v2:Value) (a b:List Int) (r1 o1 r2 o2:Nat) (H:Heap) (hL:H.low ≤ H.size) (h1:SlI .i64 H v1 a r1 o1) (h2:SlI .i64 H v2 b r2 o2):Runs Tryd.prog S (.fn 58) [v1,v2] H (.int .i64 (cmpL a b)) H:=by
  suffices h:WCall Tryd.prog S (.fn 58) [v1,v2] H (fun v H' => v = .int .i64 (cmpL a b) ∧ H' = H) by
    obtain ⟨_,_,hr,rfl,rfl⟩:=h; exact hr
  obtain ⟨a1,c1,rfl⟩:=h1.v0;obtain ⟨a2,c2,rfl⟩:=h2.v0;have hml:=h1.ml;have hmx:Go.maxLen = 9223372036854775807:=rfl;have hw0:IntKind.i64.wrap ((a.length:Int) - 1) = (a.length:Int) - 1:=IntWalk.i64_in _ (by omega)
  refine call_of Tryd.func58 rfl (Nat.le_of_ble_eq_true rfl) (hS.no rfl _ _) ?_
  rw [Tryd.ntmps58,Tryd.results58]
  repeat' (first | (with_reducible refine Zacf (fun h => ?_) (fun h => ?_)) | (with_reducible refine Zace (fun h => ?_) (fun h => ?_)) | (with_reducible refine sxIfB_sp (fun h => ?_) (fun h => ?_)) | simp only [↓Zabr,↓Zabo,↓Zabq,↓Zaah,↓bxC_loop,↓Zabl,↓Zabp,↓Zacj,↓Zaci,↓Zaco,↓Zaar,↓Zaak,↓Zaal,↓Zaap,↓bxPut,↓Zabj,↓Zabk,↓Zabh,↓Zacm,↓Zacn,↓Zacp,↓Zaaz,↓Zaax,Zack,Zaad,Zabb,Zabe,↓reduceIte,Nat.reduceEqDiff,Nat.reduceLT,dec_F,and_true, *,argF,List.getD_cons_zero,List.getD_cons_succ,lenI])
  all_goals first
    | exact congrArg (Value.int .i64) (by unfold cmpL; rw [if_pos (by omega)])
    | exact congrArg (Value.int .i64) (by unfold cmpL; rw [if_neg (by omega),if_pos (by omega)])
    | exact ⟨congrArg (Value.int .i64) (by unfold cmpL; rw [if_pos (by omega)]),rfl⟩
    | exact ⟨congrArg (Value.int .i64) (by unfold cmpL; rw [if_neg (by omega),if_pos (by omega)]),rfl⟩
    | skip
  have hll:a.length ≤ b.length ∧ b.length ≤ a.length:=by omega
  have hc:cmpL a b = cmpN a b a.length:=by unfold cmpL; rw [if_neg (by omega),if_neg (by omega)]
  rw [hc];refine sxL_of (fun m ρ H1 => m ≤ a.length ∧ cmpN a b a.length = cmpN a b m ∧ H1 = H ∧ ρ 0 = .slice a1 a.length c1 ∧ ρ 1 = .slice a2 b.length c2 ∧ ρ 5 = .int .i64 ((m:Int) - 1)) (n:=a.length) ⟨Nat.le_refl _,rfl,rfl,rfl,rfl,rfl⟩ ?_
  rintro m ρ H1 ⟨hm,hcm,rfl,e0,e1,e5⟩;rw [hcm];cases m with
  | zero =>
    have h0:¬ (0:Int) ≤ ((0:Nat):Int) - 1:=by omega
    clear h1 h2 hcm hc hw0
    repeat' (first | (with_reducible refine Zacf (fun h => ?_) (fun h => ?_)) | (with_reducible refine Zace (fun h => ?_) (fun h => ?_)) | (with_reducible refine sxIfB_sp (fun h => ?_) (fun h => ?_)) | simp only [↓Zabr,↓Zabm,↓Zabo,↓Zabq,↓Zaah,↓Zabl,↓Zabn,↓Zabp,↓Zacj,↓Zaci,↓Zacc,↓Zaai,↓Zaca,↓Zabz,↓Zabv,↓Zaby,↓Zaco,↓Zaar,↓Zaak,↓Zaaq,↓Zaal,↓Zaao,↓bxPut,↓Zabj,↓Zabi,↓Zabk,↓Zaaf,↓Zaag,↓Zaae,↓Zabd,↓Zabc,↓loopQ_ret,↓Zabh,↓Zacm,↓Zacn,↓Zacp,↓Zaaz,↓Zaax,Zack,Zaad,Zabb,Zacg,Zabe,↓reduceIte,Nat.reduceLT,dec_F,and_true, *] | (with_reducible first | refine Zabu (by assumption) (by decide +kernel) ?_ | refine Zabt (by decide +kernel) ?_ | refine Zacb (by decide +kernel) ?_ | refine Zabw ?_))
    rfl
  | succ m =>
    have hla:m < a.length:=by omega
    have hlb:m < b.length:=by omega
    have p1:=SlI_ix h1 hla;have p2:=SlI_ix h2 hlb;have q1:=(h1.rdI hla).1;have q2:=(h2.rdI hlb).1;have hidx:((m + 1:Nat):Int) - 1 = (m:Int):=by omega
    rw [hidx] at e5;have hge:(0:Int) ≤ (m:Int):=by omega
    have hw:IntKind.i64.wrap ((m:Int) - 1) = (m:Int) - 1:=IntWalk.i64_in _ (by omega)
    have hs:cmpN a b (m + 1) = if a.getD m 0 < b.getD m 0 then -1 else if b.getD m 0 < a.getD m 0 then 1 else cmpN a b m:=rfl
    have hcm2:¬ a.getD m 0 < b.getD m 0 → ¬ b.getD m 0 < a.getD m 0 → cmpN a b a.length = cmpN a b m:=fun x y => by rw [hcm,hs,if_neg x,if_neg y]
    rw [hs];clear h1 h2 hcm hc hw0 hs hidx
    repeat' (first | (with_reducible refine Zacf (fun h => ?_) (fun h => ?_)) | (with_reducible refine Zace (fun h => ?_) (fun h => ?_)) | (with_reducible refine sxIfB_sp (fun h => ?_) (fun h => ?_)) | simp only [↓Zabr,↓Zabm,↓Zabo,↓Zabq,↓Zaah,↓Zabl,↓Zabn,↓Zabp,↓Zacj,↓Zaci,↓Zacc,↓Zaai,↓Zaca,↓Zabz,↓Zabv,↓Zaby,↓sxD_same,↓Zaco,↓Zaar,↓Zaak,↓Zaaq,↓Zaal,↓Zaao,↓bxPut,↓Zabj,↓Zabi,↓Zabk,↓Zaaf,↓Zaag,↓Zaae,↓Zabd,↓Zabc,↓loopQ_ret,↓Zabh,↓Zacm,↓Zacn,↓Zacp,↓Zaaz,↓Zaax,Zack,Zaad,Zabb,Zach,Zabe,↓reduceIte,Nat.reduceEqDiff,Nat.reduceLT,dec_T,true_and,and_self,Zaaa,one1,Option.bind_some, *,ldI] | (with_reducible first | refine Zabu (by assumption) (by decide +kernel) ?_ | refine Zabt (by decide +kernel) ?_ | refine Zacb (by decide +kernel) ?_ | refine Zabw ?_))
    all_goals first
      | exact congrArg (Value.int .i64) (by rw [if_pos (by assumption)])
      | exact congrArg (Value.int .i64) (by rw [if_neg (by assumption),if_pos (by assumption)])
      | exact ⟨m,by omega,by omega,hcm2 (by assumption) (by assumption),rfl⟩
      | exact ⟨m,by omega,by omega,rfl,rfl⟩
      | trace_state
end Go.Proofs.YtcmaipijkjillaaDoor
