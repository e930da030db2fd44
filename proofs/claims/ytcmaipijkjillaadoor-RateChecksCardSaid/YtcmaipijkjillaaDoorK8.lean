/- Walks and offers, by the reference. -/
import Derived.Test.YtcmaipijkjillaaDoorK7
set_option linter.unusedVariables false
set_option linter.unusedSimpArgs false
set_option linter.unusedSectionVars false

namespace Go.Proofs.YtcmaipijkjillaaDoor
open Go Go.AM
set_option maxRecDepth 10000

theorem alO (H:Heap):aAlloc Tryd.prog H 40 = some (.pointer (some ⟨H.size,0,none⟩),H.newExact [.int .i64 0,.int .i64 0,.int .i64 0,.int .i64 0] 40):=by kernel_rfl
theorem infO:Tryd.prog.info? 40 = some Tryd.t40 ∧ Tryd.t40.size = 4:=⟨by kernel_rfl,by kernel_rfl⟩
theorem varO (H:Heap) (x:Off):∃ H1 H2,H.newExact [.int .i64 0,.int .i64 0,.int .i64 0,.int .i64 0] 40 = H1 ∧ aStore Tryd.prog H1 40 (.pointer (some ⟨H.size,0,none⟩)) (.agg ⟨x.cells⟩) = some H2 ∧ Keep H H2 ∧ H.size < H2.size ∧ Own H2 H.size 40 x.cells:=by
  obtain ⟨H1,e1,k1,z1,-,-⟩:=box1 H [.int .i64 0,.int .i64 0,.int .i64 0,.int .i64 0] 40;have ow:Own H1 H.size 40 [.int .i64 0,.int .i64 0,.int .i64 0,.int .i64 0]:=e1 ▸ Own.new H _ _;obtain ⟨H2,h1,h2,h3,_,h5⟩:=ow.store (P:=Tryd.prog) (t:=40) infO.1 (v:=.agg ⟨x.cells⟩) (new:=x.cells) rfl (infO.2.trans rfl) rfl (o:=0) (Nat.le_refl 4);exact ⟨H1,H2,e1,h1,h5 H k1 (Nat.le_refl _),by rw [h3]; exact z1,h2⟩
theorem off_reads {H:Heap} {r:Nat} {x:Off} (h:Own H r 40 x.cells):H.read r 0 4 = some x.cells ∧ H.read r 0 1 = some [.int .i64 x.f] ∧ H.read r 1 1 = some [.int .i64 x.t] ∧ H.read r 2 1 = some [.int .i64 x.n] ∧ H.read r 3 1 = some [.int .i64 x.d]:=
  ⟨h.read (o:=0) (n:=4) (Nat.le_refl 4),h.read (o:=0) (n:=1) (show 1 ≤ 4 by decide),h.read (o:=1) (n:=1) (show 2 ≤ 4 by decide),h.read (o:=2) (n:=1) (show 3 ≤ 4 by decide),h.read (o:=3) (n:=1) (Nat.le_refl 4)⟩

variable {S:AM.Sys} (hS:Only S 6)
include hS

set_option maxHeartbeats 4000000 in
theorem Walk_runs (l:List Off) (w:List Int) (vl vw:Value) (r o r' o':Nat) (H:Heap) (hlow:H.low ≤ H.size) (hl:SlO H vl l r o) (hw:SlI .i64 H vw w r' o') :
    ∃ bb,Runs Tryd.prog S (.fn 26) [vl,vw] H (.bool bb) H ∧ (bb = true ↔ WkOk l w):=by
  suffices h:WCall Tryd.prog S (.fn 26) [vl,vw] H (fun v H' => ∃ bb,v = .bool bb ∧ (bb = true ↔ WkOk l w) ∧ H' = H) by
    obtain ⟨_,_,hr,bb,rfl,h1,rfl⟩:=h; exact ⟨bb,hr,h1⟩
  obtain ⟨a,cap,rfl⟩:=hl.v0;obtain ⟨a',cap',rfl⟩:=hw.v0;have no:¬ WkOk l w → ∃ bb,Value.bool false = .bool bb ∧ (bb = true ↔ WkOk l w):=fun h => ⟨false,rfl,⟨fun h => (by cases h),fun h' => absurd h' h⟩⟩
  refine call_of Tryd.func26 rfl (Nat.le_of_ble_eq_true rfl) (hS.no rfl _ _) ?_
  rw [Tryd.ntmps26,Tryd.results26]
  repeat' simp only [↓Zabo,↓Zabq,↓bxC_loop,↓Zabl,↓Zabp,↓Zaci,↓Zach,↓Zacn,↓Zaak,↓bxPut,↓Zabj,↓Zabh,↓Zacl,↓Zacm,↓Zaax,Zabe,Nat.reduceLT, *]
  refine sxL_of (fun m ρ X => ∃ k:Nat,m = w.length - k ∧ k ≤ w.length ∧ X = H ∧ WkS l w k ∧ ρ 0 = .slice a l.length cap ∧ ρ 1 = .slice a' w.length cap' ∧ ρ 5 = .int .i64 (k:Int))
    ⟨0,rfl,Nat.zero_le _,rfl,.zero,rfl,rfl,rfl⟩ ?_
  rintro m ρ X ⟨k,rfl,hk,rfl,hwk,e0,e1,e5⟩;have hml:=hw.ml
  by_cases hkw:k < w.length
  case neg =>
    have hlt:¬ (k:Int) < (w.length:Int):=by omega
    have hke:k = w.length:=by omega
    rw [hke] at hwk;have hpo:∃ bb,Value.bool true = .bool bb ∧ (bb = true ↔ WkOk l w):=⟨true,rfl,fun _ => hwk,fun _ => rfl⟩
    clear hl hw hwk hke hkw hk no
    repeat' (first | simp only [↓Zabr,↓Zabm,↓Zabo,↓Zabq,↓Zaah,↓Zabl,↓Zabn,↓Zabp,↓Zaci,↓Zach,↓Zacc,↓Zaai,↓Zaca,↓sxDL_pick,↓Zabz,↓Zabv,↓Zabx,↓Zaby,↓Zacn,↓Zaav,↓Zaar,↓Zaak,↓Zaas,↓Zaaq,↓Zaal,↓Zaan,↓Zaao,↓Zaap,↓bxPut,↓Zabj,↓Zabi,↓Zabk,↓Zaaf,↓Zaag,↓Zaae,↓Zabd,↓Zabc,↓loopQ_ret,↓Zabh,↓Zacl,↓Zacm,↓Zaco,↓Zaaz,↓Zaax,↓dstAt,↓Zaba,Zacj,Zaad,Zabb,sxIfB_f,Zabe,↓reduceIte,Nat.reduceEqDiff,Nat.reduceLT,dec_F,and_true, *,lenI] | (with_reducible first | refine Zabu (by assumption) (by decide +kernel) ?_ | refine Zabt (by decide +kernel) ?_ | refine Zacb (by decide +kernel) ?_ | refine Zabw ?_))
  have hlt:(k:Int) < (w.length:Int):=by omega
  have hwi:=wrap_succ hkw hml;have ixk:=SlI_ix' hw hkw;have rdk:=(hw.rdI hkw).1
  by_cases h1:w.getD k 0 < 0
  · have hpo:=no (fun h => by have:=(h.1 k hkw).1; omega)
    clear hl hw hwk no hml
    repeat' (first | simp only [↓Zabr,↓Zabm,↓Zabo,↓Zabq,↓Zaah,↓Zabl,↓Zabn,↓Zabp,↓Zaci,↓Zach,↓Zacc,↓Zaai,↓Zaca,↓sxDL_pick,↓Zabz,↓Zabv,↓Zabx,↓Zaby,↓sxD_same,↓Zacn,↓Zaav,↓Zaar,↓Zaak,↓Zaas,↓Zaaq,↓Zaal,↓Zaan,↓Zaao,↓Zaap,↓bxPut,↓Zabj,↓Zabi,↓Zabk,↓Zaaf,↓Zaag,↓Zaae,↓Zabd,↓Zabc,↓loopQ_ret,↓Zabh,↓Zacl,↓Zacm,↓Zaco,↓Zaaz,↓Zaax,↓dstAt,↓Zaba,Zacj,Zaad,Zabb,Zaac,sxGuardB_u,sxGuardB_ft,Zacg,Zabe,↓reduceIte,Nat.reduceEqDiff,Nat.reduceLT,dec_T,and_true,Zaaa,one1,Option.bind_some, *,lenI,ldI] | (with_reducible first | refine Zabu (by assumption) (by decide +kernel) ?_ | refine Zabt (by decide +kernel) ?_ | refine Zacb (by decide +kernel) ?_ | refine Zabw ?_))
  by_cases h2:(l.length:Int) ≤ w.getD k 0
  · have hpo:=no (fun h => by have:=(h.1 k hkw).2; omega)
    clear hl hw hwk no hml
    repeat' (first | simp only [↓Zabr,↓Zabm,↓Zabo,↓Zabq,↓Zaah,↓Zabl,↓Zabn,↓Zabp,↓Zaci,↓Zach,↓Zacc,↓Zaai,↓Zaca,↓sxDL_pick,↓Zabz,↓Zabv,↓Zabx,↓Zaby,↓sxD_same,↓Zacn,↓Zaav,↓Zaar,↓Zaak,↓Zaas,↓Zaaq,↓Zaal,↓Zaan,↓Zaao,↓Zaap,↓bxPut,↓Zabj,↓Zabi,↓Zabk,↓Zaaf,↓Zaag,↓Zaae,↓Zabd,↓Zabc,↓loopQ_ret,↓Zabh,↓Zacl,↓Zacm,↓Zaco,↓Zaaz,↓Zaax,↓dstAt,↓Zaba,Zacj,Zaad,Zabb,Zaac,Zaab,sxGuardB_u,sxGuardB_ft,Zacd,Zacg,Zabe,↓reduceIte,Nat.reduceEqDiff,Nat.reduceLT,dec_T,dec_F,and_true,Zaaa,one1,Option.bind_some, *,lenI,lenO,ldI] | (with_reducible first | refine Zabu (by assumption) (by decide +kernel) ?_ | refine Zabt (by decide +kernel) ?_ | refine Zacb (by decide +kernel) ?_ | refine Zabw ?_))
  have hb:0 ≤ w.getD k 0 ∧ w.getD k 0 < (l.length:Int):=by omega
  obtain ⟨j1,j2,j3,j4⟩:=wk_at hl hb
  by_cases hk0:k = 0
  · have hnz:¬ (0:Int) < (k:Int):=by omega
    have hwk2:=hwk.succ hb (fun h => absurd h (by omega))
    clear hl hw hwk no hml j2 j4 hb hk0
    repeat' (first | simp only [↓Zabr,↓Zabm,↓Zabo,↓Zabq,↓Zaah,↓Zabl,↓Zabn,↓Zabp,↓Zaci,↓Zach,↓Zacc,↓Zaai,↓Zaca,↓sxDL_pick,↓Zabz,↓Zabv,↓Zabx,↓Zaby,↓sxD_same,↓Zacn,↓Zaav,↓Zaar,↓Zaak,↓Zaas,↓Zaaq,↓Zaal,↓Zaan,↓Zaao,↓Zaap,↓bxPut,↓Zabj,↓Zabi,↓Zabk,↓Zaaf,↓Zaag,↓Zaae,↓Zabd,↓Zabc,↓loopQ_ret,↓Zabh,↓Zacl,↓Zacm,↓Zaco,↓Zaaz,↓Zaax,↓dstAt,↓Zaba,Zacj,Zaad,Zabb,Zaab,sxGuardB_tf,Zacd,Zacg,sxIfB_f,Zabe,↓reduceIte,Nat.reduceEqDiff,Nat.reduceLT,dec_T,dec_F,true_and,Zaaa,one1,Option.bind_some, *,lenI,lenO,ldI] | (with_reducible first | refine Zabu (by assumption) (by decide +kernel) ?_ | refine Zabt (by decide +kernel) ?_ | refine Zacb (by decide +kernel) ?_ | refine Zabw ?_))
    exact ⟨w.length - (k + 1),by omega,k + 1,rfl,by omega,hwk2,rfl⟩
  have hpz:(0:Int) < (k:Int):=by omega
  obtain ⟨p,hp⟩:∃ p,k = p + 1:=⟨k - 1,by omega⟩
  have hbp:=hwk.1 p (by omega)
  obtain ⟨g1,g2,g3,g4⟩:=wk_at hl hbp;have hwp:IntKind.i64.wrap ((k:Int) - 1) = (p:Int):=by
    have:Go.maxLen = 9223372036854775807:=rfl;rw [IntWalk.i64_in _ (by omega)]; omega
  have ixp:=SlI_ix' hw (show p < w.length by omega)
  have rdp:=(hw.rdI (show p < w.length by omega)).1
  by_cases hc:(offW l w p).t = (offW l w k).f
  · have hwk2:=hwk.succ hb (fun _ => by rw [show k - 1 = p by omega]; exact hc)
    clear hl hw hwk no hml j2 j4 g2 g3 hb hbp hp;generalize (offW l w p).t = u1 at *;generalize (offW l w k).f = u2 at *;subst hc
    repeat' (first | simp only [↓Zabr,↓Zabm,↓Zabo,↓Zabq,↓Zaah,↓Zabl,↓Zabn,↓Zabp,↓Zaci,↓Zach,↓Zacc,↓Zaai,↓Zaca,↓sxDL_pick,↓Zabz,↓Zabv,↓Zabx,↓Zaby,↓sxD_same,↓Zacn,↓Zaav,↓Zaar,↓Zaak,↓Zaas,↓Zaaq,↓Zaal,↓Zaan,↓Zaao,↓Zaap,↓bxPut,↓Zabj,↓Zabi,↓Zabk,↓Zaaf,↓Zaag,↓Zaae,↓Zabd,↓Zabc,↓loopQ_ret,↓Zabh,↓Zacl,↓Zacm,↓Zaco,↓Zaaz,↓Zaax,↓dstAt,↓Zaba,Zacj,Zaad,Zabb,Zaac,Zaab,sxGuardB_tt,Zacd,Zacg,sxIfB_f,Zabe,↓reduceIte,Nat.reduceEqDiff,Nat.reduceLT,dec_T,dec_F,true_and,Zaaa,Nat.add_zero,one1,Option.bind_some,not_true_eq_false, *,lenI,lenO,ldI,faO0,faO1,Nat.add_zero] | (with_reducible first | refine Zabu (by assumption) (by decide +kernel) ?_ | refine Zabt (by decide +kernel) ?_ | refine Zacb (by decide +kernel) ?_ | refine Zabw ?_))
    exact ⟨w.length - (k + 1),by omega,k + 1,rfl,by omega,hwk2,rfl⟩
  · have hpo:=no (fun h => hc (by have:=h.2 p (by omega); rwa [← hp] at this))
    clear hl hw hwk no hml j2 j4 g2 g3 hb hbp hp;generalize (offW l w p).t = u1 at *;generalize (offW l w k).f = u2 at *
    repeat' (first | simp only [↓Zabr,↓Zabm,↓Zabo,↓Zabq,↓Zaah,↓Zabl,↓Zabn,↓Zabp,↓Zaci,↓Zach,↓Zacc,↓Zaai,↓Zaca,↓sxDL_pick,↓Zabz,↓Zabv,↓Zabx,↓Zaby,↓sxD_same,↓Zacn,↓Zaav,↓Zaar,↓Zaak,↓Zaas,↓Zaaq,↓Zaal,↓Zaan,↓Zaao,↓Zaap,↓bxPut,↓Zabj,↓Zabi,↓Zabk,↓Zaaf,↓Zaag,↓Zaae,↓Zabd,↓Zabc,↓loopQ_ret,↓Zabh,↓Zacl,↓Zacm,↓Zaco,↓Zaaz,↓Zaax,↓dstAt,↓Zaba,Zacj,Zaad,Zabb,Zaac,Zaab,sxGuardB_tt,Zacd,Zacg,Zabe,↓reduceIte,Nat.reduceEqDiff,Nat.reduceLT,dec_T,dec_F,and_true,Zaaa,Nat.add_zero,one1,Option.bind_some,not_false_eq_true, *,lenI,lenO,ldI,faO0,faO1,Nat.add_zero] | (with_reducible first | refine Zabu (by assumption) (by decide +kernel) ?_ | refine Zabt (by decide +kernel) ?_ | refine Zacb (by decide +kernel) ?_ | refine Zabw ?_))

set_option maxHeartbeats 4000000 in
theorem Good_runs (n:Int) (v:Value) (l:List Off) (r o:Nat) (H:Heap) (hl:SlO H v l r o) :
    ∃ H',Keep H H' ∧ Runs Tryd.prog S (.fn 25) [.int .i64 n,v] H (.int .i64 (chk n l)) H':=by
  obtain ⟨e0,he0⟩:∃ e0,chk n l = e0:=⟨_,rfl⟩;rw [he0]
  suffices h:WCall Tryd.prog S (.fn 25) [.int .i64 n,v] H (fun v H' => v = .int .i64 e0 ∧ Keep H H') by
    obtain ⟨_,H',hr,rfl,hk⟩:=h; exact ⟨H',hk,hr⟩
  obtain ⟨a,cap,rfl⟩:=hl.v0;refine call_of Tryd.func25 rfl (Nat.le_of_ble_eq_true rfl) (hS.no rfl _ _) ?_
  rw [Tryd.ntmps25,Tryd.results25];have hkr:=Keep.refl H
  by_cases h1:n < 2
  · have:e0 = 2:=by rw [← he0,chk,if_pos (by omega)]
    subst this;clear he0 hl
    repeat' simp only [↓Zabr,↓Zabo,↓Zabq,↓Zaah,↓bxC_loop,↓Zabl,↓Zabp,↓Zaci,↓Zach,↓Zacn,↓Zaav,↓Zaar,↓Zaak,↓Zaas,↓Zaal,↓Zaap,↓bxPut,↓Zabj,↓Zabk,↓Zabh,↓Zacl,↓Zacm,↓Zaco,↓Zaaz,↓Zaax,↓dstAt,↓Zaba,Zacj,Zaad,Zabb,Zaac,sxGuardB_ft,Zacg,Zabe,↓reduceIte,Nat.reduceEqDiff,Nat.reduceLT,dec_T,and_self, *,argF,List.getD_cons_zero]
  by_cases h2:6 < n
  · have:e0 = 2:=by rw [← he0,chk,if_pos (by omega)]
    subst this;clear he0 hl
    repeat' simp only [↓Zabr,↓Zabo,↓Zabq,↓Zaah,↓bxC_loop,↓Zabl,↓Zabp,↓Zaci,↓Zach,↓Zacn,↓Zaav,↓Zaar,↓Zaak,↓Zaas,↓Zaal,↓Zaap,↓bxPut,↓Zabj,↓Zabk,↓Zabh,↓Zacl,↓Zacm,↓Zaco,↓Zaaz,↓Zaax,↓dstAt,↓Zaba,Zacj,Zaad,Zabb,Zaab,Zacd,Zacg,Zabe,↓reduceIte,Nat.reduceEqDiff,Nat.reduceLT,dec_T,dec_F,and_self, *,argF,List.getD_cons_zero]
  by_cases h3:40 < (l.length:Int)
  · have:e0 = 3:=by rw [← he0,chk,if_neg (by omega),if_pos (by omega)]
    subst this;clear he0 hl
    repeat' simp only [↓Zabr,↓Zabo,↓Zabq,↓Zaah,↓bxC_loop,↓Zabl,↓Zabp,↓Zaci,↓Zach,↓Zacn,↓Zaav,↓Zaar,↓Zaak,↓Zaas,↓Zaal,↓Zaap,↓bxPut,↓Zabj,↓Zabk,↓Zabh,↓Zacl,↓Zacm,↓Zaco,↓Zaaz,↓Zaax,↓dstAt,↓Zaba,Zacj,Zaad,Zabb,Zaab,Zacd,Zacg,sxIfB_f,Zabe,↓reduceIte,Nat.reduceEqDiff,Nat.reduceLT,dec_T,dec_F,and_self, *,argF,List.getD_cons_zero,List.getD_cons_succ,lenO]
  have hall0:chk n l = if ∀ x ∈ l,IsOff n x then 0 else 2:=by rw [chk,if_neg (by omega),if_neg (by omega)]
  rw [hall0] at he0;clear hall0
  repeat' simp only [↓Zabr,↓Zabo,↓Zabq,↓Zaah,↓bxC_loop,↓Zabl,↓Zabp,↓Zaci,↓Zach,↓Zacn,↓Zaav,↓Zaar,↓Zaak,↓Zaas,↓Zaal,↓Zaap,↓bxPut,↓Zabj,↓Zabk,↓Zabh,↓Zacl,↓Zacm,↓Zaco,↓Zaaz,↓Zaax,↓dstAt,↓Zaba,Zacj,Zaad,Zabb,Zaab,Zacd,sxIfB_f,Zabe,↓reduceIte,Nat.reduceEqDiff,Nat.reduceLT,dec_F, *,argF,List.getD_cons_zero,List.getD_cons_succ,lenO]
  refine sxL_of (fun m ρ X => ∃ k:Nat,m = l.length - k ∧ k ≤ l.length ∧ Keep H X ∧ (∀ j,j < k → IsOff n (l.getD j default)) ∧ ρ 0 = .int .i64 n ∧ ρ 1 = .slice a l.length cap ∧ ρ 5 = .int .i64 (k:Int))
    ⟨0,rfl,Nat.zero_le _,hkr,fun j hj => absurd hj (Nat.not_lt_zero j),rfl,rfl,rfl⟩ ?_
  clear hkr;rintro m ρ X ⟨k,rfl,hk,hK,hall,q0,q1,q5⟩;have hml:=hl.ml
  by_cases hkl:k < l.length
  case neg =>
    have hlt:¬ (k:Int) < (l.length:Int):=by omega
    have hke:k = l.length:=by omega
    have:e0 = 0:=by
      rw [← he0,if_pos];intro x hx;obtain ⟨j,hj,rfl⟩:=List.getElem_of_mem hx;have:=hall j (by omega)
      rwa [List.getD_eq_getElem?_getD,List.getElem?_eq_getElem hj] at this
    subst this;clear he0 hl hall hke hkl hk
    repeat' simp only [↓Zabr,↓Zabo,↓Zabq,↓Zaah,↓Zabl,↓Zabn,↓Zabp,↓Zaci,↓Zach,↓Zacn,↓Zaav,↓Zaar,↓Zaak,↓Zaas,↓Zaaj,↓Zaaq,↓Zaat,↓Zaal,↓Zaan,↓Zaao,↓Zaap,↓Zack,↓bxPut,↓Zabj,↓Zabi,↓Zabk,↓Zaaf,↓Zaag,↓Zaae,↓Zabd,↓Zabc,↓loopQ_ret,↓Zabh,↓Zacl,↓Zacm,↓Zaco,↓Zaaz,↓Zaax,↓dstAt,↓Zaba,Zacj,Zaad,Zabb,sxIfB_f,Zabe,↓reduceIte,Nat.reduceEqDiff,Nat.reduceLT,dec_F,and_self, *,lenO]
  have hlt:(k:Int) < (l.length:Int):=by omega
  have hw:=wrap_succ hkl hml;have hl1:=hl.keep hK;have ix:=SlO_ixN hl1 hkl;obtain ⟨rd4,-⟩:=off_at hl1 hkl;obtain ⟨X1,X2,p1,p2,k2,z2,ow2⟩:=varO X (l.getD k default);have kX2:=hK.trans k2;obtain ⟨-,t0,t1,t2,t3⟩:=off_reads ow2;have al:=alO X;rw [p1] at al;have hmem:l.getD k default ∈ l:=getD_mem hkl;obtain ⟨x,hxd⟩:∃ x,l.getD k default = x:=⟨_,rfl⟩;rw [hxd] at rd4 p2 ow2 t0 t1 t2 t3 hmem;have bad:¬ IsOff n x → e0 = 2:=fun h => by rw [← he0,if_neg (fun hA => h (hA x hmem))]
  by_cases hx:IsOff n x
  · have hall2:∀ j,j < k + 1 → IsOff n (l.getD j default):=fun j hj => by
      rcases Nat.lt_or_ge j k with h | h
      · exact hall j h
      · rw [show j = k by omega,hxd]; exact hx
    obtain ⟨⟨a1,a2⟩,⟨a3,a4⟩,a5,a6,a7,a8,a9⟩:=hx;have b1:¬ x.f < 0:=by omega
    have b2:¬ n ≤ x.f:=by omega
    have b3:¬ x.t < 0:=by omega
    have b4:¬ n ≤ x.t:=by omega
    have b6:¬ x.n < 1:=by omega
    have b7:¬ 50 < x.n:=by omega
    have b8:¬ x.d < 1:=by omega
    have b9:¬ 50 < x.d:=by omega
    clear a1 a2 a3 a4 a6 a7 a8 a9 hmem bad hall hl hl1 ow2 he0 p1 hK k2 hxd
    repeat' simp only [↓Zabr,↓Zabo,↓Zabq,↓Zaah,↓Zabl,↓Zabn,↓Zabp,↓Zaci,↓Zach,↓Zacn,↓Zaav,↓Zaar,↓Zaak,↓Zaas,↓Zaaj,↓Zaaq,↓Zaat,↓Zaal,↓Zaan,↓Zaao,↓Zaap,↓Zack,↓bxPut,↓Zabj,↓Zabi,↓Zabk,↓Zaaf,↓Zaag,↓Zaae,↓Zabd,↓Zabc,↓loopQ_ret,↓Zabh,↓Zacl,↓Zacm,↓Zaco,↓Zaaz,↓Zaax,↓dstAt,↓Zaba,Zacj,Zaad,Zabb,Zaab,Zacd,Zacg,sxIfB_f,Zabe,↓reduceIte,Nat.reduceEqDiff,Nat.reduceLT,dec_T,dec_F,true_and,Nat.add_zero,one1,Option.bind_some,Option.map_some, *,lenO,ldO,ldI,faO0,faO1,faO2,faO3,Nat.zero_add]
    exact ⟨l.length - (k + 1),by omega,k + 1,rfl,by omega,hall2,rfl⟩
  · have:=bad hx;subst this;clear hmem bad hall hl hl1 ow2 he0 p1 hK k2 hxd;have hcs:x.f < 0 ∨ (¬ x.f < 0 ∧ n ≤ x.f) ∨ (¬ x.f < 0 ∧ ¬ n ≤ x.f ∧ x.t < 0) ∨ (¬ x.f < 0 ∧ ¬ n ≤ x.f ∧ ¬ x.t < 0 ∧ n ≤ x.t) ∨ (¬ x.f < 0 ∧ ¬ n ≤ x.f ∧ ¬ x.t < 0 ∧ ¬ n ≤ x.t ∧ x.f = x.t) ∨
        (¬ x.f < 0 ∧ ¬ n ≤ x.f ∧ ¬ x.t < 0 ∧ ¬ n ≤ x.t ∧ ¬ x.f = x.t ∧ x.n < 1) ∨ (¬ x.f < 0 ∧ ¬ n ≤ x.f ∧ ¬ x.t < 0 ∧ ¬ n ≤ x.t ∧ ¬ x.f = x.t ∧ ¬ x.n < 1 ∧ 50 < x.n) ∨
        (¬ x.f < 0 ∧ ¬ n ≤ x.f ∧ ¬ x.t < 0 ∧ ¬ n ≤ x.t ∧ ¬ x.f = x.t ∧ ¬ x.n < 1 ∧ ¬ 50 < x.n ∧ x.d < 1) ∨ (¬ x.f < 0 ∧ ¬ n ≤ x.f ∧ ¬ x.t < 0 ∧ ¬ n ≤ x.t ∧ ¬ x.f = x.t ∧ ¬ x.n < 1 ∧ ¬ 50 < x.n ∧ ¬ x.d < 1 ∧ 50 < x.d):=by
      unfold IsOff at hx; omega
    clear hx;rcases hcs with c1 | ⟨c1,c2⟩ | ⟨c1,c2,c3⟩ | ⟨c1,c2,c3,c4⟩ | ⟨c1,c2,c3,c4,c5⟩ | ⟨c1,c2,c3,c4,c5,c6⟩ | ⟨c1,c2,c3,c4,c5,c6,c7⟩ | ⟨c1,c2,c3,c4,c5,c6,c7,c8⟩ | ⟨c1,c2,c3,c4,c5,c6,c7,c8,c9⟩;all_goals repeat' simp only [↓Zabr,↓Zabo,↓Zabq,↓Zaah,↓Zabl,↓Zabn,↓Zabp,↓Zaci,↓Zach,↓Zacn,↓Zaav,↓Zaar,↓Zaak,↓Zaas,↓Zaaj,↓Zaaq,↓Zaat,↓Zaal,↓Zaan,↓Zaao,↓Zaap,↓Zack,↓bxPut,↓Zabj,↓Zabi,↓Zabk,↓Zaaf,↓Zaag,↓Zaae,↓Zabd,↓Zabc,↓loopQ_ret,↓Zabh,↓Zacl,↓Zacm,↓Zaco,↓Zaaz,↓Zaax,↓dstAt,↓Zaba,Zacj,Zaad,Zabb,Zaac,Zaab,sxGuardB_ft,Zacd,Zacg,Zabe,↓reduceIte,Nat.reduceEqDiff,Nat.reduceLT,dec_T,dec_F,and_self,Nat.add_zero,one1,Option.bind_some,Option.map_some, *,lenO,ldO,ldI,faO0,faO1,faO2,faO3,Nat.zero_add]
end Go.Proofs.YtcmaipijkjillaaDoor
