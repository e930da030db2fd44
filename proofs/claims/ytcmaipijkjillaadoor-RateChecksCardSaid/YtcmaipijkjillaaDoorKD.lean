/- The law RateChecks on the canonical machine. -/
import Derived.Test.YtcmaipijkjillaaDoorKC
set_option linter.unusedVariables false
set_option linter.unusedSimpArgs false
set_option linter.unusedSectionVars false

namespace Go.Proofs.YtcmaipijkjillaaDoor
open Go Go.AM
set_option maxRecDepth 10000

theorem eqBB (b:Bool):binP Tryd.prog .eql 4 (.bool b) (.bool b) = some (.bool true):=by rw [eqlB]; cases b <;> rfl
theorem neBB (b:Bool):binP Tryd.prog .neq 4 (.bool b) (.bool b) = some (.bool false):=by rw [neqB]; cases b <;> rfl
theorem sameB {b b':Bool} {P:Prop} (h1:b = true ↔ P) (h2:b' = true ↔ P):b = b':=by
  have h5:=h1.trans h2.symm;cases b <;> cases b' <;> simp_all
theorem bothG {n:Int} {l:List Off} {w:List Int} {H1 H1' H2 H2':Heap} {u1 u2:Value} (h1:PostG n l w H1 u1 H1') (h2:PostG n l w H2 u2 H2') :
    ∃ b e,u1 = .tuple ⟨[.bool b,.int .i64 e]⟩ ∧ u2 = .tuple ⟨[.bool b,.int .i64 e]⟩ ∧ Keep H1 H1' ∧ Keep H2 H2':=by
  obtain ⟨b,e,rfl,k1,a1,a2⟩:=h1;obtain ⟨b',e',rfl,k2,c1,c2⟩:=h2
  by_cases hc:chk n l = 0
  · obtain ⟨rfl,h3⟩:=a2 hc;obtain ⟨rfl,h4⟩:=c2 hc;cases sameB h3 h4;exact ⟨b,0,rfl,rfl,k1,k2⟩
  · obtain ⟨rfl,rfl⟩:=a1 hc;obtain ⟨rfl,rfl⟩:=c1 hc;exact ⟨false,_,rfl,rfl,k1,k2⟩
theorem bothA {n:Int} {l:List Off} {ps:List (Int × Int)} {H1 H1' H2 H2':Heap} {u1 u2:Value} (h1:PostA n l ps H1 u1 H1') (h2:PostA n l ps H2 u2 H2') :
    ∃ b e,u1 = .tuple ⟨[.bool b,.int .i64 e]⟩ ∧ u2 = .tuple ⟨[.bool b,.int .i64 e]⟩ ∧ Keep H1 H1' ∧ Keep H2 H2':=by
  obtain ⟨b,e,rfl,k1,a1,a2⟩:=h1;obtain ⟨b',e',rfl,k2,c1,c2⟩:=h2
  by_cases hc:chk n l = 0
  · by_cases hp:(ps.length:Int) = n ∧ PrOk ps
    · obtain ⟨rfl,h3⟩:=(a2 hc).2 hp;obtain ⟨rfl,h4⟩:=(c2 hc).2 hp;cases sameB h3 h4;exact ⟨b,0,rfl,rfl,k1,k2⟩
    · obtain ⟨rfl,rfl⟩:=(a2 hc).1 hp;obtain ⟨rfl,rfl⟩:=(c2 hc).1 hp;exact ⟨false,2,rfl,rfl,k1,k2⟩
  · obtain ⟨rfl,rfl⟩:=a1 hc;obtain ⟨rfl,rfl⟩:=c1 hc;exact ⟨false,_,rfl,rfl,k1,k2⟩

variable {S:AM.Sys} (hS:Only S 6)
include hS

theorem few_runs (l:List Off) (vl:Value) (r o:Nat) (H:Heap) (hl:SlO H vl l r o):Runs Tryd.prog S (.fn 5) [vl] H (.bool (decide ((l.length:Int) ≤ 60))) H:=by
  suffices h:WCall Tryd.prog S (.fn 5) [vl] H (fun v H' => v = .bool (decide ((l.length:Int) ≤ 60)) ∧ H' = H) by
    obtain ⟨_,_,hr,rfl,rfl⟩:=h; exact hr
  obtain ⟨a,cap,rfl⟩:=hl.v0;refine call_of Tryd.func5 rfl (Nat.le_of_ble_eq_true rfl) (hS.no rfl _ _) ?_
  rw [Tryd.ntmps5,Tryd.results5]
  repeat' simp only [↓Zabo,↓Zabq,↓Zabp,↓Zaci,↓Zach,↓Zacn,↓Zaar,↓Zaak,↓Zaal,↓Zaap,↓bxPut,↓Zabj,↓Zabh,↓Zacl,↓Zacm,↓Zaco,↓Zaaz,↓Zaax,Zacj,Zaad,Zabb,Zabe,↓reduceIte,Nat.reduceEqDiff,Nat.reduceLT,and_self, *,argF,List.getD_cons_zero,lenO]

set_option maxHeartbeats 8000000 in
theorem rc_law (n:Int) (l:List Off) (w:List Int) (ps:List (Int × Int)) (vl vw vp:Value) (r o r' o' r2 o2:Nat) (H:Heap) (hgr:Grp H) (hL:H.low ≤ H.size) (hl:SlO H vl l r o) (hw:SlI .i64 H vw w r' o') (hp:SlP H vp ps r2 o2) (h0:H.read 0 0 2 = some [.int .i64 1,.int .i64 1]) (h1:0 < H.size)
    (hO:∀ H',Keep H H' → S.O 6 [] H'):∃ H',Runs Tryd.prog S (.fn 3) [.int .i64 n,vl,vw,vp] H (.bool true) H':=by
  suffices h:WCall Tryd.prog S (.fn 3) [.int .i64 n,vl,vw,vp] H (fun v H' => v = .bool true) by
    obtain ⟨_,H',hr,rfl⟩:=h; exact ⟨H',hr⟩
  have al:∀ (H':Heap),Keep H H' → ∀ (K:Value → Heap → Prop) (b:Blk K),sxCallB Tryd.prog S (.fn 6) [] H' K b = K (.bool true) H':=fun H' hk K b => known_bx (hO H' hk)
  have al1:=al H (Keep.refl _);have f0:=(few_runs hS l vl r o H hl).bx;obtain ⟨u1,H1,R1,p1⟩:=Gains_runs hS n l w vl vw r o r' o' H hgr hL hl hw h0 h1;have k1:Keep H H1:=by obtain ⟨_,_,_,k,_⟩:=p1; exact k
  obtain ⟨u2,H2,R2,p2⟩:=rGains_runs hS n l w vl vw r o r' o' H1 (k1.grp hgr) (k1.low hL) (hl.keep k1) (hw.keep k1);obtain ⟨b,e,rfl,rfl,-,k12⟩:=bothG p1 p2;have k2:=k1.trans k12;obtain ⟨u3,H3,R3,p3⟩:=Agree_runs hS n l ps vl vp r o r2 o2 H2 (k2.grp hgr) (k2.low hL) (hl.keep k2) (hp.keep k2);have k23:Keep H2 H3:=by obtain ⟨_,_,_,k,_⟩:=p3; exact k
  have k3:=k2.trans k23;obtain ⟨u4,H4,R4,p4⟩:=rAgree_runs hS n l ps vl vp r o r2 o2 H3 (k3.grp hgr) (k3.low hL) (hl.keep k3) (hp.keep k3);obtain ⟨b',e',rfl,rfl,-,k34⟩:=bothA p3 p4;have al4:=al H4 (k3.trans k34);have f1:=R1.bx;have f2:=R2.bx;have f3:=R3.bx;have f4:=R4.bx;have l0:∀ a c,aLen Tryd.prog #[22] (.slice a l.length c) = some (.int .i64 l.length):=fun a c => lenO a _ c
  obtain ⟨a1,cap1,rfl⟩:=hl.v0;obtain ⟨a2,cap2,rfl⟩:=hw.v0;obtain ⟨a3,cap3,rfl⟩:=hp.v0;refine call_of Tryd.func3 rfl (Nat.le_of_ble_eq_true rfl) (hS.no rfl _ _) ?_
  rw [Tryd.ntmps3,Tryd.results3];clear R1 R2 R3 R4 p1 p2 p3 p4 k1 k12 k2 k23 k3 k34 hl hw hp hO al l0
  by_cases h60:(l.length:Int) ≤ 60
  case neg =>
    rw [decide_eq_false h60] at f0
    repeat' simp only [↓Zabr,↓Zabo,↓Zabq,↓Zaah,↓Zabp,↓Zaci,↓Zach,↓Zacn,↓Zaav,↓Zaar,↓Zaak,↓Zaas,↓Zaal,↓bxOp_un,↓bxOp_extract,↓Zaau,↓Zaap,↓bxPut,↓Zabj,↓Zabk,↓Zabh,↓Zacl,↓Zacm,↓Zaco,↓Zaaz,↓Zaax,↓Zaay,↓dstAt,↓Zaba,Zacj,una_nf,Zaac,Zabs,sxGuardB_ft,Zacg,Zabe,List.map,List.nil_append,List.append_nil,↓reduceIte,Nat.reduceEqDiff,Nat.reduceLT, *,argF,List.getD_cons_zero,List.getD_cons_succ]
  rw [decide_eq_true h60] at f0
  by_cases h40:40 < (w.length:Int)
  · repeat' simp only [↓Zabr,↓Zabo,↓Zabq,↓Zaah,↓Zabp,↓Zaci,↓Zach,↓Zacn,↓Zaav,↓Zaar,↓Zaak,↓Zaas,↓Zaal,↓bxOp_un,↓bxOp_extract,↓Zaau,↓Zaap,↓bxPut,↓Zabj,↓Zabk,↓Zabh,↓Zacl,↓Zacm,↓Zaco,↓Zaaz,↓Zaax,↓Zaay,↓dstAt,↓Zaba,Zacj,Zaad,Zabb,una_nt,Zaac,Zaab,Zabs,sxGuardB_ft,Zacd,Zacg,Zabe,List.map,List.nil_append,List.append_nil,↓reduceIte,Nat.reduceEqDiff,Nat.reduceLT,dec_T, *,argF,List.getD_cons_zero,List.getD_cons_succ,lenI]
  by_cases h20:20 < (ps.length:Int)
  · repeat' simp only [↓Zabr,↓Zabo,↓Zabq,↓Zaah,↓Zabp,↓Zaci,↓Zach,↓Zacn,↓Zaav,↓Zaar,↓Zaak,↓Zaas,↓Zaal,↓bxOp_un,↓bxOp_extract,↓Zaau,↓Zaap,↓bxPut,↓Zabj,↓Zabk,↓Zabh,↓Zacl,↓Zacm,↓Zaco,↓Zaaz,↓Zaax,↓Zaay,↓dstAt,↓Zaba,Zacj,Zaad,Zabb,una_nt,Zaab,Zabs,Zacd,Zacg,Zabe,List.map,List.nil_append,List.append_nil,↓reduceIte,Nat.reduceEqDiff,Nat.reduceLT,dec_T,dec_F, *,argF,List.getD_cons_zero,List.getD_cons_succ,lenI,lenP]
  repeat' simp only [↓Zabr,↓Zabo,↓Zabq,↓Zaah,↓Zabp,↓Zaci,↓Zach,↓Zacn,↓Zaav,↓Zaar,↓Zaak,↓Zaas,↓Zaal,↓bxOp_un,↓bxOp_extract,↓Zaau,↓Zaap,↓bxPut,↓Zabj,↓Zabk,↓Zabh,↓Zacl,↓Zacm,↓Zaco,↓Zaaz,↓Zaax,↓Zaay,↓dstAt,↓Zaba,Zacj,Zaad,Zabb,una_nt,Zaac,Zaab,Zabs,sxGuardB_tt,Zacd,sxIfB_f,Zabe,List.map,List.nil_append,List.append_nil,↓reduceIte,Nat.reduceEqDiff,Nat.reduceLT,dec_T,dec_F,not_true_eq_false, *,argF,List.getD_cons_zero,List.getD_cons_succ,lenI,lenP,xt20,xt21,eqBB,neBB]
end Go.Proofs.YtcmaipijkjillaaDoor
