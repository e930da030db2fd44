/- Gains, by the program. -/
import Derived.Test.YtcmaipijkjillaaDoorK8
set_option linter.unusedVariables false
set_option linter.unusedSimpArgs false
set_option linter.unusedSectionVars false

namespace Go.Proofs.YtcmaipijkjillaaDoor
open Go Go.AM
set_option maxRecDepth 10000

def PostG (n:Int) (l:List Off) (w:List Int) (H:Heap) (u:Value) (H':Heap):Prop:=
  ∃ bb e,u = .tuple ⟨[.bool bb,.int .i64 e]⟩ ∧ Keep H H' ∧ (chk n l ≠ 0 → bb = false ∧ e = chk n l) ∧ (chk n l = 0 → e = 0 ∧ (bb = true ↔ GnOk l w))
theorem chk_zero {n:Int} {l:List Off} (h:chk n l = 0):(2 ≤ n ∧ n ≤ 6) ∧ l.length ≤ 40 ∧ ∀ x ∈ l,IsOff n x:=by
  unfold chk at h;split at h
  · omega
  · split at h
    · omega
    · split at h
      · exact ⟨by omega,by omega,by assumption⟩
      · omega
theorem wk_off {n:Int} {l:List Off} {w:List Int} (hc:chk n l = 0) (hw:WkOk l w) {k:Nat} (hk:k < w.length):(0 ≤ (offW l w k).t ∧ (offW l w k).t < n) ∧ (0 ≤ (offW l w k).f ∧ (offW l w k).f < n) ∧ 1 ≤ (offW l w k).n ∧ (offW l w k).n ≤ 50 ∧ 1 ≤ (offW l w k).d ∧ (offW l w k).d ≤ 50:=by
  obtain ⟨-,-,h3⟩:=chk_zero hc;have h1:=hw.1 k hk;have h2:=h3 _ (getD_mem (l:=l) (d:=default) (k:=(w.getD k 0).toNat) (by omega))
  obtain ⟨a1,a2,_,a3,a4,a5,a6⟩:=h2;exact ⟨a2,a1,a3,a4,a5,a6⟩
def enW (l:List Off) (w:List Int) (k:Nat):Int:=if k = 0 then (offW l w 0).f else (offW l w (k - 1)).t
theorem stT {H0 X:Heap} {r:Nat} {cells new:List Value} (hk:Keep H0 X) (hr:H0.size ≤ r) (hL:X.low ≤ X.size) (ow:Own X r 60 cells) (hc:cells.length = 18) (hn:new.length = 18) (ho:ones new = true) :
    ∃ Ha Hb,aStore Tryd.prog (X.relow X.size) 60 (.pointer (some ⟨r,0,none⟩)) (.agg ⟨new⟩) = some Ha ∧ Ha.relow (Nat.min X.low Ha.low) = Hb ∧ Keep H0 Hb ∧ Hb.size = X.size ∧ Hb.low ≤ Hb.size ∧ Own Hb r 60 new:=by
  obtain ⟨Ha,h1,h2,h3,_,h5⟩:=(ow.addr (l:=X.size)).store (P:=Tryd.prog) (t:=60) infT.1 (v:=.agg ⟨new⟩) (new:=new) rfl (infT.2.trans hn.symm) ho (o:=0) (by omega)
  have hsp:splice cells 0 new = new:=by
    unfold splice;rw [List.take_zero,List.nil_append,Nat.zero_add,List.drop_of_length_le (by omega),List.append_nil]
  rw [hsp] at h2;refine ⟨Ha,_,h1,rfl,Keep.lower hk (h5 H0 (hk.trans (Keep.relowS _)) hr),h3,?_,h2.addr⟩;show Nat.min X.low Ha.low ≤ Ha.size;rw [h3];exact Nat.le_trans (Nat.min_le_left _ _) hL
theorem ownT18 {X:Heap} {r:Nat} {cells:List Value} (h:Own X r 60 cells) (hc:cells.length = 18):X.read r 0 18 = some cells:=by
  have:=h.read (o:=0) (n:=18) (by omega)
  rwa [List.drop_zero,List.take_of_length_le (by omega)] at this

variable {S:AM.Sys} (hS:Only S 6)
include hS

set_option maxHeartbeats 8000000 in
theorem Gains_runs (n:Int) (l:List Off) (w:List Int) (vl vw:Value) (r o r' o':Nat) (H:Heap) (hgr:Grp H) (hL:H.low ≤ H.size) (hl:SlO H vl l r o) (hw:SlI .i64 H vw w r' o') (h1:H.read 0 0 2 = some [.int .i64 1,.int .i64 1]) (h0:0 < H.size) :
    ∃ u H',Runs Tryd.prog S (.fn 7) [.int .i64 n,vl,vw] H u H' ∧ PostG n l w H u H':=by
  suffices h:WCall Tryd.prog S (.fn 7) [.int .i64 n,vl,vw] H (fun u H' => PostG n l w H u H') by
    obtain ⟨u,H',hr,h⟩:=h; exact ⟨u,H',hr,h⟩
  obtain ⟨H1,k1,R1⟩:=check_runs hS n vl l r o H hl;obtain ⟨a,cap,rfl⟩:=hl.v0;obtain ⟨a',cap',rfl⟩:=hw.v0;have f1:=R1.bx;refine call_of Tryd.func7 rfl (Nat.le_of_ble_eq_true rfl) (hS.no rfl _ _) ?_
  rw [Tryd.ntmps7,Tryd.results7]
  by_cases hck:chk n l = 0
  case neg =>
    have hpo:PostG n l w H (.tuple ⟨[.bool false,.int .i64 (chk n l)]⟩) H1:=⟨false,_,rfl,k1,fun _ => ⟨rfl,rfl⟩,fun h => absurd h hck⟩
    generalize chk n l = e at *;clear hl hw R1 k1
    repeat' simp only [↓Zabr,↓Zabo,↓Zabq,↓Zaah,↓bxC_loop,↓Zabl,↓Zabp,↓Zacj,↓Zaci,↓Zaco,↓Zaav,↓Zaar,↓Zaak,↓Zaas,↓Zaaj,↓Zaaq,↓Zaat,↓Zaal,↓bxOp_un,↓Zaan,↓Zaao,↓Zaau,↓Zaap,↓Zacl,↓bxPut,↓Zabj,↓Zabk,↓Zabh,↓Zacm,↓Zacn,↓Zacp,↓Zaaz,↓Zaax,↓Zaay,↓dstAt,↓Zaba,Zack,Zaad,Zabb,Zabs,Zach,Zabf,List.map,List.nil_append,List.append_nil,↓reduceIte,Nat.reduceEqDiff,Nat.reduceLT,dec_T,not_false_eq_true, *,argF,List.getD_cons_zero,List.getD_cons_succ,Zabf]
  rw [hck] at f1;have no:∀ X,Keep H X → ¬ GnOk l w → PostG n l w H (.tuple ⟨[.bool false,.int .i64 0]⟩) X:=fun X hk hn => ⟨false,0,rfl,hk,fun h => absurd hck h,fun _ => ⟨rfl,⟨fun h => (by cases h),fun h => absurd h hn⟩⟩⟩
  have l1:=k1.low hL
  by_cases hw0:w.length = 0
  · have hpo:=no H1 k1 (fun h => by have:=h.1; omega)
    have hz:(w.length:Int) = 0:=by omega
    clear hl hw R1 k1 no hck hw0
    repeat' simp only [↓Zabr,↓Zabo,↓Zabq,↓Zaah,↓bxC_loop,↓Zabl,↓Zabp,↓Zacj,↓Zaci,↓Zaco,↓Zaav,↓Zaar,↓Zaak,↓Zaas,↓Zaaj,↓Zaaq,↓Zaat,↓Zaal,↓bxOp_un,↓Zaan,↓Zaao,↓Zaau,↓Zaap,↓Zacl,↓bxPut,↓Zabj,↓Zabk,↓Zabh,↓Zacm,↓Zacn,↓Zacp,↓Zaaz,↓Zaax,↓Zaay,↓dstAt,↓Zaba,Zack,Zaad,Zabb,Zaac,Zabs,sxGuardB_ft,Zach,Zacg,Zabf,List.map,List.nil_append,List.append_nil,↓reduceIte,Nat.reduceEqDiff,Nat.reduceLT,dec_T,dec_F,not_true_eq_false, *,argF,List.getD_cons_zero,List.getD_cons_succ,lenI,Zabf]
  have hz:¬ (w.length:Int) = 0:=by omega
  have hwp:0 < w.length:=by omega
  obtain ⟨bb,R2,hbb⟩:=isWalk_runs hS l w _ _ r o r' o' H1 l1 (hl.keep k1) (hw.keep k1);have f2:=R2.bx;cases hbv:bb with
  | false =>
    rw [hbv] at f2 hbb;have hpo:=no H1 k1 (fun h => by have:=hbb.2 h.2.1; cases this)
    clear hl hw R1 R2 k1 no hck hbb hbv hw0
    repeat' simp only [↓Zabr,↓Zabo,↓Zabq,↓Zaah,↓bxC_loop,↓Zabl,↓Zabp,↓Zacj,↓Zaci,↓Zaco,↓Zaav,↓Zaar,↓Zaak,↓Zaas,↓Zaaj,↓Zaaq,↓Zaat,↓Zaal,↓bxOp_un,↓Zaan,↓Zaao,↓Zaau,↓Zaap,↓Zacl,↓bxPut,↓Zabj,↓Zabk,↓Zabh,↓Zacm,↓Zacn,↓Zacp,↓Zaaz,↓Zaax,↓Zaay,↓dstAt,↓Zaba,Zack,Zaad,Zabb,una_nf,Zaab,Zabs,Zacd,Zach,Zacg,Zabf,List.map,List.nil_append,List.append_nil,↓reduceIte,Nat.reduceEqDiff,Nat.reduceLT,dec_F,not_true_eq_false, *,argF,List.getD_cons_zero,List.getD_cons_succ,lenI,Zabf]
  | true =>
  rw [hbv] at f2 hbb;have hwk:WkOk l w:=hbb.1 rfl;obtain ⟨⟨n2,n6⟩,-,-⟩:=chk_zero hck;obtain ⟨j1,j2,j3,j4⟩:=wk_at (hl.keep k1) (hwk.1 0 hwp);have ix0:=SlI_ix' (hw.keep k1) hwp;have rd0:=((hw.keep k1).rdI hwp).1;have ix0:aIndexAt Tryd.prog 23 (.slice a' w.length cap') (.int .i64 0) = some (.pointer (some ⟨r',o',none⟩)):=ix0;have rd0:H1.read r' o' 1 = some [.int .i64 (w.getD 0 0)]:=rd0;obtain ⟨H2,k2,R3⟩:=begin_runs hS (offW l w 0).f H1 (k1.read h0 h1) (Nat.lt_of_lt_of_le h0 k1.size);have f3:=R3.bx;have k02:=k1.trans k2;obtain ⟨H3,e3,k3,z3,-,-⟩:=box1 H2 trZ 60;have ow3:Own H3 H2.size 60 trZ:=e3 ▸ Own.new H2 _ _;obtain ⟨H4,p4,o4,s4,-,kk4⟩:=ow3.store (P:=Tryd.prog) (t:=60) infT.1 (v:=.agg ⟨trV (List.replicate 6 0) 0 (offW l w 0).f (offW l w 0).f (List.replicate 6 false) 0 1 1⟩) (new:=trV (List.replicate 6 0) 0 (offW l w 0).f (offW l w 0).f (List.replicate 6 false) 0 1 1) rfl infT.2 rfl (o:=0) (Nat.le_refl 18);have k4:=kk4 H2 k3 (Nat.le_refl _);have hsp:splice trZ 0 (trV (List.replicate 6 0) 0 (offW l w 0).f (offW l w 0).f (List.replicate 6 false) 0 1 1) = trV (List.replicate 6 0) 0 (offW l w 0).f (offW l w 0).f (List.replicate 6 false) 0 1 1:=rfl;rw [hsp] at o4;have al:=alT H2;rw [e3] at al;have hrng:=fun k (hk:k < w.length) => wk_off hck hwk hk
  have hpr:=pr_rng (l:=l) (w:=w) (fun k hk => (hrng k hk).2.2)
  obtain ⟨s0,hs0⟩:∃ s0,(offW l w 0).f = s0:=⟨_,rfl⟩;have o4':Own H4 H2.size 60 (trV (List.replicate 6 0) ((0:Nat):Int) s0 (enW l w 0) (List.replicate 6 false) 0 (prN l w 0) (prD l w 0)):=by
    rw [← hs0]; exact o4
  rw [hs0] at f3 p4 j3;generalize hcb:trV (List.replicate 6 0) 0 s0 s0 (List.replicate 6 false) 0 1 1 = cb at f3 p4;clear R1 R2 R3 ow3 kk4 e3 k3 hbb o4 hsp hcb j2 j4 s4
  repeat' simp only [↓Zabr,↓Zabo,↓Zabq,↓Zaah,↓bxC_loop,↓Zabl,↓Zabp,↓Zacj,↓Zaci,↓Zaco,↓Zaav,↓Zaar,↓Zaak,↓Zaas,↓Zaaj,↓Zaaq,↓Zaat,↓Zaal,↓bxOp_un,↓Zaan,↓Zaao,↓Zaau,↓Zaap,↓Zacl,↓bxPut,↓Zabj,↓Zabk,↓Zabh,↓Zacm,↓Zacn,↓Zacp,↓Zaaz,↓Zaax,↓Zaay,↓dstAt,↓Zaba,Zack,Zaad,Zabb,una_nt,Zaab,Zabs,Zacd,Zacg,Zabf,List.map,List.nil_append,List.append_nil,↓reduceIte,Nat.reduceEqDiff,Nat.reduceLT,dec_F,Nat.add_zero,one1,Option.bind_some,not_true_eq_false, *,argF,List.getD_cons_zero,List.getD_cons_succ,lenI,ldI,faO0,Zabf,Nat.add_zero]
  clear f1 f2 f3 p4 al ix0 rd0 j1 j3
  refine sxL_of (fun m ρ X => ∃ (k:Nat) (lst:List Int) (rc:List Bool),m = w.length - k ∧ k ≤ w.length ∧ Keep H2 X ∧ lst.length = 6 ∧ Rch l w n k rc ∧ Trl l w k ∧ Own X H2.size 60 (trV lst (k:Int) s0 (enW l w k) rc 0 (prN l w k) (prD l w k)) ∧
      ρ 1 = .slice a l.length cap ∧ ρ 9 = .pointer (some ⟨H2.size,0,none⟩) ∧ ρ 36 = .slice a' w.length cap' ∧ ρ 37 = .int .i64 (w.length:Int) ∧ ρ 38 = .int .i64 (k:Int))
    ⟨0,_,_,rfl,Nat.zero_le _,k4,rfl,Rch.zero,Trl.zero,o4',rfl,rfl,rfl,rfl,rfl⟩ ?_
  clear k4 o4';rintro m ρ X ⟨k,lst,rc,rfl,hk,kX,hlst,hrch,htrl,owX,e1,e9,e36,e37,e38⟩;have kHX:=k02.trans kX;have lX:=kHX.low hL;have hml:=hw.ml;have hrl:=hrch.len;have q18:=ownT18 owX (trV_len hlst hrl);have hk6:k ≤ 6:=by
    have:=hrch.cnt;have h2:=cnt_le hrl (Nat.le_refl 6) (fun c hc => by rw [List.getD_eq_getElem?_getD,List.getElem?_eq_none (by omega)]; rfl)
    omega
  have hp:=hpr k hk;have hp50:=pow50 hk6
  by_cases hkw:k < w.length
  case neg =>
    have hlt:¬ (k:Int) < (w.length:Int):=by omega
    have hke:k = w.length:=by omega
    obtain ⟨H5,k5,R5⟩:=gains_runs hS lst (k:Int) s0 (enW l w k) rc 0 (prN l w k) (prD l w k) X hlst hrl (kHX.read h0 h1) (Nat.lt_of_lt_of_le h0 kHX.size) (by omega) (by omega)
    have f5:=R5.bx;have hgn:((0 < (k:Int) ∧ s0 = enW l w k) ∧ prD l w k < prN l w k) ↔ GnOk l w:=by
      subst hke;unfold enW;rw [if_neg (by omega),← hs0]
      constructor
      · rintro ⟨⟨_,h4⟩,h5⟩; exact ⟨hwp,hwk,htrl,h4.symm,h5⟩
      · rintro ⟨_,_,_,h4,h5⟩; exact ⟨⟨by omega,h4.symm⟩,h5⟩
    have hpo:PostG n l w H (.tuple ⟨[.bool (decide ((0 < (k:Int) ∧ s0 = enW l w k) ∧ prD l w k < prN l w k)),.int .i64 0]⟩) H5:=⟨_,0,rfl,kHX.trans k5,fun h => absurd hck h,fun _ => ⟨rfl,by rw [decide_eq_true_iff]; exact hgn⟩⟩
    generalize hbo:decide ((0 < (k:Int) ∧ s0 = enW l w k) ∧ prD l w k < prN l w k) = bo at *;generalize trV lst (k:Int) s0 (enW l w k) rc 0 (prN l w k) (prD l w k) = cells at *;clear hl hw R5 kHX kX k5 hgn hbo hke hkw hk hrch htrl owX hrl hlst hp hp50 hpr hrng hwk no hck hk6 hbv hs0
    repeat' (first | simp only [↓Zabr,↓Zabm,↓Zabo,↓Zabq,↓Zaah,↓Zabl,↓Zabn,↓Zabp,↓Zacj,↓Zaci,↓Zacc,↓Zaai,↓Zaca,↓sxDL_assign,↓Zabz,↓Zaby,↓sxDL_extract,↓Zaco,↓Zaar,↓Zaak,↓Zaaq,↓Zaat,↓Zaal,↓bxOp_un,↓Zaao,↓bxOp_extract,↓Zaau,↓Zacl,↓bxPut,↓Zabj,↓Zabi,↓Zabk,↓Zaaf,↓Zaag,↓Zaae,↓Zabd,↓Zabc,↓loopQ_ret,↓Zabh,↓Zacm,↓Zacn,↓Zacp,↓Zaaz,↓Zaax,↓Zaay,Zack,Zaad,Zabb,Zabs,Zacg,Zabf,List.map,List.nil_append,List.append_nil,↓reduceIte,Nat.reduceEqDiff,Nat.reduceLT,dec_F,Option.map_some, *,ldT,Zabf] | (with_reducible first | refine Zabu (by assumption) (by decide +kernel) ?_ | refine Zabt (by decide +kernel) ?_ | refine Zacb (by decide +kernel) ?_ | refine Zabw ?_))
  have hlt:(k:Int) < (w.length:Int):=by omega
  have hwi:=wrap_succ hkw hml;have ixk:=SlI_ix' (hw.keep kHX) hkw;have rdk:=((hw.keep kHX).rdI hkw).1;obtain ⟨j1,j2,-,-⟩:=wk_at (hl.keep kHX) (hwk.1 k hkw);have hwk0:=(hwk.1 k hkw).1;have hr1:=hrng k hkw;obtain ⟨c,hc⟩:∃ c:Nat,(offW l w k).t = (c:Int):=⟨(offW l w k).t.toNat,by omega⟩
  have hc6:c < 6:=by omega
  have hts:=Trl.succ (l:=l) (w:=w) (m:=k);have hcs:(Value.agg ⟨(offW l w k).cells⟩).cells.toList = (offW l w k).cells:=rfl
  by_cases hbad:(0 < (k:Int) ∧ s0 = enW l w k) ∨ rc.getD c false = true ∨ w.getD k 0 < 0
  · obtain ⟨Xa,X1,k5,l5,f5,d5⟩:=drawn lX (with_bad hS lst (k:Int) s0 (enW l w k) rc 0 (prN l w k) (prD l w k) (w.getD k 0) (offW l w k) c (X.relow X.size) (Nat.le_refl _) hlst hrl hc6 hc hbad);obtain ⟨Xb,X2,p6,q6,k6,z6,l6,ow6⟩:=stT (kX.trans k5) (Nat.le_refl _) l5 (owX.keep k5) (trV_len hlst hrl) (new:=trZ) rfl rfl;have hng:¬ GnOk l w:=by
      rintro ⟨_,_,h3,h4,_⟩;have h5:=hts.1 (h3.mono (by omega))
      rcases hbad with ⟨hb1,hb2⟩ | hb | hb
      · unfold enW at hb2;rw [if_neg (by omega),← hs0] at hb2
        exact h5.2.2 (by omega) hb2.symm
      · obtain ⟨j,hj,he⟩:=(hrch.iff c).1 hb;exact h5.2.1 j hj (he.trans hc.symm)
      · omega
    have hpo:=no X2 (k02.trans k6) hng;generalize trV lst (k:Int) s0 (enW l w k) rc 0 (prN l w k) (prD l w k) = cells at *;generalize trZ = tz at *;generalize offW l w k = x at *;clear hl hw kHX kX k5 k6 hng hbad hts hkw hk hrch htrl owX hrl hlst hp hp50 hpr hrng hwk no hck hk6 hbv hs0 z6 ow6 hc hr1
    repeat' (first | simp only [↓Zabr,↓Zabm,↓Zabo,↓Zabq,↓Zaah,↓Zabl,↓Zabn,↓Zabp,↓Zacj,↓Zaci,↓Zacc,↓Zaai,↓Zaca,↓sxDL_assign,↓Zabz,↓Zaby,↓sxDL_extract,↓sxD_same,↓Zaco,↓Zaar,↓Zaak,↓Zaaq,↓Zaat,↓Zaal,↓bxOp_un,↓Zaao,↓bxOp_extract,↓Zaau,↓Zacl,↓bxPut,↓Zabj,↓Zabi,↓Zabk,↓Zaaf,↓Zaag,↓Zaae,↓Zabd,↓Zabc,↓loopQ_ret,↓Zabh,↓Zacm,↓Zacn,↓Zacp,↓Zaaz,↓Zaax,↓Zaay,Zack,Zaad,Zabb,una_nf,Zabs,Zach,Zabf,List.map,List.nil_append,List.append_nil,↓reduceIte,Nat.reduceEqDiff,Nat.reduceLT,dec_T,Zaaa,one1,Option.bind_some,Option.map_some, *,ldI,ldT,ldO,xt20,xt21,Zabf] | (with_reducible first | refine Zabu (by assumption) (by decide +kernel) ?_ | refine Zabt (by decide +kernel) ?_ | refine Zacb (by decide +kernel) ?_ | refine Zabw ?_))
  · have hn1:¬ (0 < (k:Int) ∧ s0 = enW l w k):=fun h => hbad (.inl h)
    have hn2:rc.getD c false = false:=by
      cases h:rc.getD c false with
      | false => rfl
      | true => exact absurd (.inr (.inl h)) hbad
    have hrn:=hrch.next hc6 hn2 hc;have hk5:k < 6:=by
      have:=hrn.cnt;have h2:=cnt_le hrn.len (Nat.le_refl 6) (fun c hc => by rw [List.getD_eq_getElem?_getD,List.getElem?_eq_none (by have:=hrn.len; omega)]; rfl)
      omega
    have hpn:=hpr (k + 1) (by omega)
    have hp50':=pow50 (show k + 1 ≤ 6 by omega)
    have eN:prN l w (k + 1) = prN l w k * (offW l w k).n:=rfl;have eD:prD l w (k + 1) = prD l w k * (offW l w k).d:=rfl;obtain ⟨Xa,X1,k5,l5,f5,d5⟩:=drawn lX (with_good hS lst k s0 (enW l w k) rc 0 (prN l w k) (prD l w k) (w.getD k 0) (offW l w k) c (X.relow X.size) (Nat.le_refl _) hlst hrl hk5 hc6 hc hn1 hn2 hwk0 (by rw [← eN]; omega) (by rw [← eD]; omega))
    have hl2:(lst.set k (w.getD k 0)).length = 6:=by rw [List.length_set]; exact hlst
    have hr2:(rc.set c true).length = 6:=hrn.len;obtain ⟨Xb,X2,p6,q6,k6,z6,l6,ow6⟩:=stT (kX.trans k5) (Nat.le_refl _) l5 (owX.keep k5) (trV_len hlst hrl) (new:=trV (lst.set k (w.getD k 0)) ((k + 1:Nat):Int) s0 (c:Int) (rc.set c true) 0 (prN l w k * (offW l w k).n) (prD l w k * (offW l w k).d)) (trV_len hl2 hr2) (ones_trV _ _ _ _ _ _ _ _ hl2 hr2);have ht1:∀ j,j < k → (offW l w j).t ≠ (offW l w k).t:=fun j hj he => by
      have:=(hrch.iff c).2 ⟨j,hj,he.trans hc⟩;rw [hn2] at this; cases this
    have ht2:0 < k → (offW l w (k - 1)).t ≠ (offW l w 0).f:=fun hk0 he => hn1 ⟨by omega,by unfold enW; rw [if_neg (by omega),← hs0]; exact he.symm⟩
    have htr2:Trl l w (k + 1):=hts.2 ⟨htrl,ht1,ht2⟩;have hen:(c:Int) = enW l w (k + 1):=by
      unfold enW;rw [if_neg (by omega),Nat.add_sub_cancel,hc]
    rw [← eN,← eD,hen] at f5 p6 ow6;obtain ⟨lst2,hlst2⟩:∃ lst2,lst.set k (w.getD k 0) = lst2:=⟨_,rfl⟩;obtain ⟨rc2,hrc2⟩:∃ rc2,rc.set c true = rc2:=⟨_,rfl⟩;rw [hlst2,hrc2] at f5 p6 ow6;rw [hrc2] at hrn;rw [hlst2] at hl2;generalize trV lst (k:Int) s0 (enW l w k) rc 0 (prN l w k) (prD l w k) = cells at *;generalize hc2:trV lst2 ((k + 1:Nat):Int) s0 (enW l w (k + 1)) rc2 0 (prN l w (k + 1)) (prD l w (k + 1)) = cells2 at f5 p6;generalize hxo:offW l w k = x at j2 hcs f5;clear hl hw kHX kX k5 hbad hts hkw hk hrch htrl owX hrl hlst hp hp50 hpr hrng hwk no hck hk6 hbv hs0 z6 hc hr1 hn1 hn2 hk5 hpn hp50' eN eD hr2 hen hlst2 hrc2 hxo hc2 ht1 ht2
    repeat' (first | simp only [↓Zabr,↓Zabm,↓Zabo,↓Zabq,↓Zaah,↓Zabl,↓Zabn,↓Zabp,↓Zacj,↓Zaci,↓Zacc,↓Zaai,↓Zaca,↓sxDL_assign,↓Zabz,↓Zaby,↓sxDL_extract,↓sxD_same,↓Zaco,↓Zaar,↓Zaak,↓Zaaq,↓Zaat,↓Zaal,↓bxOp_un,↓Zaao,↓bxOp_extract,↓Zaau,↓Zacl,↓bxPut,↓Zabj,↓Zabi,↓Zabk,↓Zaaf,↓Zaag,↓Zaae,↓Zabd,↓Zabc,↓loopQ_ret,↓Zabh,↓Zacm,↓Zacn,↓Zacp,↓Zaaz,↓Zaax,↓Zaay,Zack,Zaad,Zabb,una_nt,Zabs,Zach,Zacg,Zabf,List.map,List.nil_append,List.append_nil,↓reduceIte,Nat.reduceEqDiff,Nat.reduceLT,dec_T,true_and,Zaaa,one1,Option.bind_some,Option.map_some, *,ldI,ldT,ldO,xt20,xt21,Zabf] | (with_reducible first | refine Zabu (by assumption) (by decide +kernel) ?_ | refine Zabt (by decide +kernel) ?_ | refine Zacb (by decide +kernel) ?_ | refine Zabw ?_))
    exact ⟨w.length - (k + 1),by omega,k + 1,lst2,rc2,rfl,by omega,hl2,hrn,htr2,ow6,rfl⟩
end Go.Proofs.YtcmaipijkjillaaDoor
