/- Prices; Agree, by the program. -/
import Derived.Test.YtcmaipijkjillaaDoorKA
set_option linter.unusedVariables false
set_option linter.unusedSimpArgs false
set_option linter.unusedSectionVars false

namespace Go.Proofs.YtcmaipijkjillaaDoor
open Go Go.AM
set_option maxRecDepth 10000

abbrev ratioE:Enc (Int × Int):=prodE (intE .i64) (intE .i64)
abbrev SlP (H:Heap) (v:Value) (d:List (Int × Int)) (r o:Nat):Prop:=SlE ratioE H v d r o
theorem lenP (a:Option Addr) (n c:Nat):aLen Tryd.prog #[24] (.slice a n c) = some (.int .i64 n):=by kernel_rfl
theorem ixP (r o n c:Nat) (k:IntKind) (i:Int):aIndexAt Tryd.prog 24 (.slice (some ⟨r,o,none⟩) n c) (.int k i) = if 0 ≤ i ∧ i < (n:Int) then some (.pointer (some ⟨r,o + i.toNat * 2,none⟩)) else none:=by kernel_rfl
theorem SlP_at {H:Heap} {w:List (Int × Int)} {r o:Nat} {a:Option Addr} {cap:Nat} (h:SlP H (.slice a w.length cap) w r o) {i:Int} (h0:0 ≤ i) (h1:i < w.length) :
    aIndexAt Tryd.prog 24 (.slice a w.length cap) (.int .i64 i) = some (.pointer (some ⟨r,o + i.toNat * 2,none⟩)) ∧ H.read r (o + i.toNat * 2) 2 = some [.int .i64 (w.getD i.toNat default).1,.int .i64 (w.getD i.toNat default).2]:=by
  obtain ⟨a',cap',e,ha⟩:=h.isv;cases e;refine ⟨by rw [ha (by omega),ixP,if_pos ⟨h0,h1⟩],?_⟩
  obtain ⟨es,h2,c1,c2,rfl,⟨rfl,_⟩,rfl,_⟩:=h.rd i.toNat (by omega)
  exact h2
def PrOk (ps:List (Int × Int)):Prop:=∀ i,i < ps.length → IsPrice (ps.getD i default).1 (ps.getD i default).2
def pOf (ps:List (Int × Int)) (c:Int):Int × Int:=ps.getD c.toNat default
def NoG (ps:List (Int × Int)) (x:Off):Prop:=¬ (pOf ps x.f).1 * (x.d * (pOf ps x.t).2) < x.n * (pOf ps x.t).1 * (pOf ps x.f).2
def AgOk (l:List Off) (ps:List (Int × Int)):Prop:=∀ k,k < l.length → NoG ps (l.getD k default)
def PostA (n:Int) (l:List Off) (ps:List (Int × Int)) (H:Heap) (u:Value) (H':Heap):Prop:=
  ∃ bb e,u = .tuple ⟨[.bool bb,.int .i64 e]⟩ ∧ Keep H H' ∧ (chk n l ≠ 0 → bb = false ∧ e = chk n l) ∧ (chk n l = 0 → (¬ ((ps.length:Int) = n ∧ PrOk ps) → bb = false ∧ e = 2) ∧ ((ps.length:Int) = n ∧ PrOk ps → e = 0 ∧ (bb = true ↔ AgOk l ps)))
theorem varR (H:Heap) (x y:Int):∃ H1 H2,H.newExact [.int .i64 0,.int .i64 0] 48 = H1 ∧ aStore Tryd.prog H1 48 (.pointer (some ⟨H.size,0,none⟩)) (.agg ⟨[.int .i64 x,.int .i64 y]⟩) = some H2 ∧ Keep H H2 ∧ H.size < H2.size ∧ H2.read H.size 0 2 = some [.int .i64 x,.int .i64 y]:=by
  obtain ⟨H1,e1,k1,z1,-,-⟩:=box1 H [.int .i64 0,.int .i64 0] 48;have ow:Own H1 H.size 48 [.int .i64 0,.int .i64 0]:=e1 ▸ Own.new H _ _;obtain ⟨H2,h1,h2,h3,_,h5⟩:=st2 48 _ infR.1 infR.2 ow x y;exact ⟨H1,H2,e1,h1,h5 H k1 (Nat.le_refl _),by rw [h3]; exact z1,(own2 h2).1⟩
theorem allocFD {H:Heap} (hL:H.low ≤ H.size) :
    ∃ Ha Hb,(H.relow H.size).newExact [.int .i64 0,.int .i64 0] 58 = Ha ∧ (∀ (all:List Oper) (n:Nat) (k:Heap → Prop),sxD all n H Ha k = k Hb) ∧ Keep H Hb ∧ Hb.low ≤ Hb.size ∧ Own Hb H.size 58 [.int .i64 0,.int .i64 0] ∧ Hb.size = H.size + 1:=by
  obtain ⟨Ha,e1,k1,_,z1,_⟩:=box1 (H.relow H.size) [.int .i64 0,.int .i64 0] 58;have ow:Own Ha H.size 58 [.int .i64 0,.int .i64 0]:=e1 ▸ Own.new (H.relow H.size) _ _;exact ⟨Ha,Ha.relow (Nat.min H.low Ha.low),e1,fun all n k => sxD_keep k1 k,Keep.draw k1,(Keep.draw k1).low hL,ow.addr,z1⟩
theorem stFD {H0 H:Heap} {r:Nat} {x y:Value} (hk:Keep H0 H) (hr:H0.size ≤ r) (hL:H.low ≤ H.size) (ow:Own H r 58 [x,y]) (a b:Int) :
    ∃ Ha Hb,aStore Tryd.prog (H.relow H.size) 58 (.pointer (some ⟨r,0,none⟩)) (.agg ⟨[.int .i64 a,.int .i64 b]⟩) = some Ha ∧ Ha.relow (Nat.min H.low Ha.low) = Hb ∧ Keep H0 Hb ∧ Hb.low ≤ Hb.size ∧ Own Hb r 58 [.int .i64 a,.int .i64 b] ∧ (∀ r' e' c',r' ≠ r → Own H r' e' c' → Own Hb r' e' c'):=by
  obtain ⟨Ha,h1,h2,h3,h4,h5⟩:=st2 58 _ infF.1 infF.2 (ow.addr (l:=H.size)) a b;refine ⟨Ha,_,h1,rfl,Keep.lower hk (h5 H0 (hk.trans (Keep.relowS _)) hr),?_,h2.addr,fun r' e' c' hne ho => (h4 r' e' c' hne ho.addr).addr⟩
  show Nat.min H.low Ha.low ≤ Ha.size;rw [h3];exact Nat.le_trans (Nat.min_le_left _ _) hL

variable {S:AM.Sys} (hS:Only S 6)
include hS

set_option maxHeartbeats 8000000 in
theorem Agree_runs (n:Int) (l:List Off) (ps:List (Int × Int)) (vl vp:Value) (r o r' o':Nat) (H:Heap) (hgr:Grp H) (hL:H.low ≤ H.size) (hl:SlO H vl l r o) (hp:SlP H vp ps r' o') :
    ∃ u H',Runs Tryd.prog S (.fn 9) [.int .i64 n,vl,vp] H u H' ∧ PostA n l ps H u H':=by
  suffices h:WCall Tryd.prog S (.fn 9) [.int .i64 n,vl,vp] H (fun u H' => PostA n l ps H u H') by
    obtain ⟨u,H',hr,h⟩:=h; exact ⟨u,H',hr,h⟩
  obtain ⟨H1,k1,R1⟩:=check_runs hS n vl l r o H hl;obtain ⟨a,cap,rfl⟩:=hl.v0;obtain ⟨a',cap',rfl⟩:=hp.v0;have f1:=R1.bx;refine call_of Tryd.func9 rfl (Nat.le_of_ble_eq_true rfl) (hS.no rfl _ _) ?_
  rw [Tryd.ntmps9,Tryd.results9]
  by_cases hck:chk n l = 0
  case neg =>
    have hpo:PostA n l ps H (.tuple ⟨[.bool false,.int .i64 (chk n l)]⟩) H1:=⟨false,_,rfl,k1,fun _ => ⟨rfl,rfl⟩,fun h => absurd h hck⟩
    generalize chk n l = e at *;clear hl hp R1 k1
    repeat' simp only [↓Zabr,↓Zabo,↓Zabq,↓Zaah,↓bxC_loop,↓Zabl,↓Zabp,↓Zaci,↓Zach,↓Zacn,↓Zaar,↓Zaak,↓Zaal,↓Zaau,↓Zaap,↓bxPut,↓Zabj,↓Zabk,↓Zabh,↓Zacl,↓Zacm,↓Zaco,↓Zaaz,↓Zaax,↓Zaay,Zacj,Zaad,Zabb,Zabs,Zacg,Zabf,List.map,List.nil_append,List.append_nil,↓reduceIte,Nat.reduceEqDiff,Nat.reduceLT,dec_T,not_false_eq_true, *,argF,List.getD_cons_zero,List.getD_cons_succ,Zabf]
  rw [hck] at f1;have ba:∀ X,Keep H X → ¬ ((ps.length:Int) = n ∧ PrOk ps) → PostA n l ps H (.tuple ⟨[.bool false,.int .i64 2]⟩) X:=fun X hk hn => ⟨false,2,rfl,hk,fun h => absurd hck h,fun _ => ⟨fun _ => ⟨rfl,rfl⟩,fun h => absurd h hn⟩⟩
  have l1:=k1.low hL
  by_cases hpn:(ps.length:Int) = n
  case neg =>
    have hpo:=ba H1 k1 (fun h => hpn h.1)
    clear hl hp R1 k1 ba hck
    repeat' simp only [↓Zabr,↓Zabo,↓Zabq,↓Zaah,↓bxC_loop,↓Zabl,↓Zabp,↓Zaci,↓Zach,↓Zacn,↓Zaar,↓Zaak,↓Zaal,↓Zaau,↓Zaap,↓bxPut,↓Zabj,↓Zabk,↓Zabh,↓Zacl,↓Zacm,↓Zaco,↓Zaaz,↓Zaax,↓Zaay,Zacj,Zaad,Zabb,Zabs,Zacg,sxIfB_f,Zabf,List.map,List.nil_append,List.append_nil,↓reduceIte,Nat.reduceEqDiff,Nat.reduceLT,dec_T,dec_F,not_true_eq_false,not_false_eq_true, *,argF,List.getD_cons_zero,List.getD_cons_succ,lenP,Zabf]
  obtain ⟨⟨n2,n6⟩,hl40,hoff⟩:=chk_zero hck;have hml:=hp.ml;have hne:decide (¬ (ps.length:Int) = n) = false:=decide_eq_false (fun h => h hpn)
  have hpn1:=Int.le_of_eq hpn;have hpn2:=Int.le_of_eq hpn.symm;have hpnE:=hpn;replace hpnE:∃ z:Int,z = n ∧ (ps.length:Int) = z:=⟨n,rfl,hpn⟩;clear hpn
  repeat' simp only [↓Zabr,↓Zabo,↓Zabq,↓Zaah,↓bxC_loop,↓Zabl,↓Zabp,↓Zaci,↓Zach,↓Zacn,↓Zaar,↓Zaak,↓Zaal,↓Zaau,↓Zaap,↓bxPut,↓Zabj,↓Zabk,↓Zabh,↓Zacl,↓Zacm,↓Zaco,↓Zaaz,↓Zaax,↓Zaay,Zacj,Zaad,Zabb,Zabs,sxIfB_f,Zabf,List.map,List.nil_append,List.append_nil,↓reduceIte,Nat.reduceEqDiff,Nat.reduceLT,dec_F,not_true_eq_false, *,argF,List.getD_cons_zero,List.getD_cons_succ,lenP,Zabf]
  refine sxL_of (fun m ρ X => ∃ k:Nat,m = ps.length - k ∧ k ≤ ps.length ∧ Keep H X ∧ (∀ i,i < k → IsPrice (ps.getD i default).1 (ps.getD i default).2) ∧ ρ 1 = .slice a l.length cap ∧ ρ 2 = .slice a' ps.length cap' ∧ ρ 25 = .slice a' ps.length cap' ∧ ρ 26 = .int .i64 (ps.length:Int) ∧ ρ 27 = .int .i64 (k:Int))
    ⟨0,rfl,Nat.zero_le _,k1,fun i hi => absurd hi (Nat.not_lt_zero i),rfl,rfl,rfl,rfl,rfl⟩ ?_
  clear f1 hne;rintro m ρ X ⟨k,rfl,hk,kX,hall,e1,e2,e25,e26,e27⟩;have hpnE':(ps.length:Int) = n:=by obtain ⟨z,rfl,h⟩:=hpnE; exact h
  have lX:=kX.low hL
  by_cases hkl:k < ps.length
  · have hlt:(k:Int) < (ps.length:Int):=by omega
    have hwi:=wrap_succ hkl hml;have hob:=SlP_at (hp.keep kX) (i:=(k:Int)) (by omega) (by omega)
    obtain ⟨ix,rd⟩:=hob;rw [Int.toNat_natCast] at ix rd;obtain ⟨X1,X2,p1,p2,k2,z2,rd2⟩:=varR X (ps.getD k default).1 (ps.getD k default).2;have al:=alR X;rw [p1] at al;have kX2:=kX.trans k2;obtain ⟨X3,k3,R3⟩:=isPrice_runs hS (ps.getD k default).1 (ps.getD k default).2 X2 (kX2.low hL);have f3:=R3.bx;have kX3:=kX2.trans k3;have hall2:IsPrice (ps.getD k default).1 (ps.getD k default).2 → ∀ i,i < k + 1 → IsPrice (ps.getD i default).1 (ps.getD i default).2:=fun h i hi => by
      rcases Nat.lt_or_ge i k with h1 | h1
      · exact hall i h1
      · rw [show i = k by omega]; exact h
    have hno:¬ IsPrice (ps.getD k default).1 (ps.getD k default).2 → ¬ ((ps.length:Int) = n ∧ PrOk ps):=fun h h1 => h (h1.2 k hkl)
    by_cases hpr:IsPrice (ps.getD k default).1 (ps.getD k default).2
    · rw [decide_eq_true hpr] at f3;replace hall2:=hall2 hpr;clear hl hp hpr hno hall ba hck R3 kX k2 kX2 k3 hpnE' p1 hoff;generalize (ps.getD k default).1 = x at rd p2 rd2 f3;generalize (ps.getD k default).2 = y at rd p2 rd2 f3
      repeat' simp only [↓Zabr,↓Zabo,↓Zabq,↓Zaah,↓Zabl,↓Zabn,↓Zabp,↓Zaci,↓Zach,↓Zacn,↓Zaar,↓Zaak,↓Zaaj,↓Zaaq,↓Zaat,↓Zaal,↓bxOp_un,↓Zaao,↓Zaau,↓Zack,↓bxPut,↓Zabj,↓Zabi,↓Zabk,↓Zaaf,↓Zaag,↓Zaae,↓Zabd,↓Zabc,↓loopQ_ret,↓Zabh,↓Zacl,↓Zacm,↓Zaco,↓Zaaz,↓Zaax,↓Zaay,Zacj,Zaad,Zabb,una_nt,Zabs,Zacg,sxIfB_f,Zabf,List.map,List.nil_append,List.append_nil,↓reduceIte,Nat.reduceEqDiff,Nat.reduceLT,dec_T,true_and,Option.map_some, *,ldRt]
      exact ⟨ps.length - (k + 1),by omega,k + 1,rfl,by omega,hall2,rfl⟩
    · rw [decide_eq_false hpr] at f3;have hpo:=ba X3 kX3 (hno hpr);clear hl hp hpr hno hall ba hck R3 kX k2 kX2 k3 hpnE' p1 hoff hall2;generalize (ps.getD k default).1 = x at rd p2 rd2 f3;generalize (ps.getD k default).2 = y at rd p2 rd2 f3
      repeat' simp only [↓Zabr,↓Zabo,↓Zabq,↓Zaah,↓Zabl,↓Zabn,↓Zabp,↓Zaci,↓Zach,↓Zacn,↓Zaar,↓Zaak,↓Zaaj,↓Zaaq,↓Zaat,↓Zaal,↓bxOp_un,↓Zaao,↓Zaau,↓Zack,↓bxPut,↓Zabj,↓Zabi,↓Zabk,↓Zaaf,↓Zaag,↓Zaae,↓Zabd,↓Zabc,↓loopQ_ret,↓Zabh,↓Zacl,↓Zacm,↓Zaco,↓Zaaz,↓Zaax,↓Zaay,Zacj,Zaad,Zabb,una_nf,Zabs,Zacg,Zabf,List.map,List.nil_append,List.append_nil,↓reduceIte,Nat.reduceEqDiff,Nat.reduceLT,dec_T,Option.map_some, *,ldRt,Zabf]
  have hlt:¬ (k:Int) < (ps.length:Int):=by omega
  have hke:k = ps.length:=by omega
  rw [hke] at hall;have hprA:PrOk ps:=hall;have gd:∀ X bb,Keep H X → (bb = true ↔ AgOk l ps) → PostA n l ps H (.tuple ⟨[.bool bb,.int .i64 0]⟩) X:=fun X bb hk hn => ⟨bb,0,rfl,hk,fun h => absurd hck h,fun _ => ⟨fun h => absurd ⟨hpnE',hprA⟩ h,fun _ => ⟨rfl,hn⟩⟩⟩
  have hmo:=hl.ml;clear hall hke hkl hk ba hpnE'
  repeat' simp only [↓Zabr,↓Zabo,↓Zabq,↓Zaah,↓Zabl,↓Zabn,↓Zabp,↓Zaci,↓Zach,↓Zacn,↓Zaar,↓Zaak,↓Zaaj,↓Zaaq,↓Zaat,↓Zaal,↓bxOp_un,↓Zaao,↓Zaau,↓Zack,↓bxPut,↓Zabj,↓Zabi,↓Zabk,↓Zaaf,↓Zaag,↓Zaae,↓Zabd,↓Zabc,↓loopQ_ret,↓Zabh,↓Zacl,↓Zacm,↓Zaco,↓Zaaz,↓Zaax,↓Zaay,Zacj,Zaad,Zabb,Zabs,sxIfB_f,Zabf,List.nil_append,↓reduceIte,Nat.reduceEqDiff,Nat.reduceLT,dec_F, *,lenO]
  refine sxL_of (fun m ρ Y => ∃ j:Nat,m = l.length - j ∧ j ≤ l.length ∧ Keep H Y ∧ (∀ i,i < j → NoG ps (l.getD i default)) ∧ ρ 2 = .slice a' ps.length cap' ∧ ρ 35 = .slice a l.length cap ∧ ρ 36 = .int .i64 (l.length:Int) ∧ ρ 37 = .int .i64 (j:Int))
    ⟨0,rfl,Nat.zero_le _,kX,fun i hi => absurd hi (Nat.not_lt_zero i),e2,rfl,rfl,rfl⟩ ?_
  clear kX lX e1 e2 e25 e26 e27 hlt k ρ X;rintro m ρ X ⟨k,rfl,hk,kX,hall,e2,e35,e36,e37⟩;have lX:=kX.low hL
  by_cases hkl:k < l.length
  case neg =>
    have hlt:¬ (k:Int) < (l.length:Int):=by omega
    have hke:k = l.length:=by omega
    rw [hke] at hall;have hpo:=gd X true kX ⟨fun _ => hall,fun _ => rfl⟩
    clear hl hp hall gd hck kX hoff hprA hke hkl hk
    repeat' (first | simp only [↓Zabr,↓Zabm,↓Zabo,↓Zabq,↓Zaah,↓Zabl,↓Zabn,↓Zabp,↓Zaci,↓Zach,↓Zacc,↓Zaai,↓Zaca,↓sxDL_alloc,↓Zabz,↓Zabx,↓Zaby,↓Zacn,↓Zaar,↓Zaak,↓Zaaj,↓Zaaq,↓Zaat,↓Zaal,↓Zaan,↓Zaao,↓Zaau,↓Zack,↓bxPut,↓Zabj,↓Zabi,↓Zabk,↓Zaaf,↓Zaag,↓Zaae,↓Zabd,↓Zabc,↓loopQ_ret,↓Zabh,↓Zacl,↓Zacm,↓Zaco,↓Zaaz,↓Zaax,↓Zaay,Zacj,Zaad,Zabb,Zabs,sxIfB_f,Zabf,List.nil_append,↓reduceIte,Nat.reduceEqDiff,Nat.reduceLT,dec_F, *,Zabf] | (with_reducible first | refine Zabu (by assumption) (by decide +kernel) ?_ | refine Zabt (by decide +kernel) ?_ | refine Zacb (by decide +kernel) ?_ | refine Zabw ?_))
  have hlt:(k:Int) < (l.length:Int):=by omega
  have hwi:=wrap_succ hkl hmo;have ixk:=SlO_ixN (hl.keep kX) hkl;obtain ⟨rdk,-⟩:=off_at (hl.keep kX) hkl;obtain ⟨X1,X2,p1,p2,k2,z2,ow2⟩:=varO X (l.getD k default);have al:=alO X;rw [p1] at al;have kX2:=kX.trans k2;obtain ⟨-,t0,t1,-,-⟩:=off_reads ow2;have hmem:=hoff _ (getD_mem (l:=l) (d:=default) hkl);obtain ⟨x,hx⟩:∃ x,l.getD k default = x:=⟨_,rfl⟩;rw [hx] at hmem rdk p2 ow2 t0 t1;obtain ⟨⟨a1,a2⟩,⟨a3,a4⟩,a5,a6,a7,a8,a9⟩:=hmem;have hbF:=SlP_at (hp.keep kX2) (i:=x.f) (by omega) (by omega)
  obtain ⟨ixf,rdf⟩:=hbF;have hbT:=SlP_at (hp.keep kX2) (i:=x.t) (by omega) (by omega)
  obtain ⟨ixt,rdt⟩:=hbT;have hpF:=hprA x.f.toNat (by omega)
  have hpT:=hprA x.t.toNat (by omega)
  obtain ⟨⟨b1,b2⟩,⟨b3,b4⟩,-⟩:=hpF;obtain ⟨⟨d1,d2⟩,⟨d3,d4⟩,-⟩:=hpT;have l2:=kX2.low hL;obtain ⟨Ya,X3,q1,q2,k3,l3,of3,z3⟩:=allocFD l2;obtain ⟨Yb,X4,q3,q4,k4,l4,of4,z4⟩:=allocFD l3;have k24:=k3.trans k4;obtain ⟨Yc,X5,q5,q6,k5,l5,of5,oth5⟩:=stFD k24 (Nat.le_refl _) l4 (of3.keep k4) (ps.getD x.f.toNat default).1 (ps.getD x.f.toNat default).2;obtain ⟨Yd,X6,q7,q8,k6,l6,of6,oth6⟩:=stFD k5 (by omega) l5 (oth5 _ _ _ (by omega) of4) (ps.getD x.t.toNat default).1 (ps.getD x.t.toNat default).2
  have of56:=oth6 _ _ _ (by omega) of5
  have kX6:=kX2.trans k6;obtain ⟨r4x,-⟩:=off_reads (ow2.keep k6);obtain ⟨m2T,-,-⟩:=own2 of6;obtain ⟨Ye,X7,k7,l7,f7,g7⟩:=drawn l6 (rateOf_runs hS x (X6.relow X6.size));obtain ⟨m2T',-,-⟩:=own2 (of6.keep k7);have hm1:x.n * (ps.getD x.t.toNat default).1 ≤ 50 * 1099511627776:=Int.mul_le_mul a7 d2 (by omega) (by decide)
  have hm2:x.d * (ps.getD x.t.toNat default).2 ≤ 50 * 1099511627776:=Int.mul_le_mul a9 d4 (by omega) (by decide)
  have hm3:0 ≤ x.n * (ps.getD x.t.toNat default).1:=Int.mul_nonneg (by omega) (by omega)
  have hm4:0 ≤ x.d * (ps.getD x.t.toNat default).2:=Int.mul_nonneg (by omega) (by omega)
  obtain ⟨Yf,X8,k8,l8,f8,g8⟩:=drawn l7 (times_runs hS x.n x.d (ps.getD x.t.toNat default).1 (ps.getD x.t.toNat default).2 (X7.relow X7.size) (by omega) (by omega))
  obtain ⟨m2F,-,-⟩:=own2 ((of56.keep k7).keep k8);obtain ⟨Yg,X9,k9,l9,f9,g9⟩:=drawn l8 (above_runs hS (x.n * (ps.getD x.t.toNat default).1) (x.d * (ps.getD x.t.toNat default).2) (ps.getD x.f.toNat default).1 (ps.getD x.f.toNat default).2 (X8.relow X8.size) (by omega) (by omega) (by omega) (by omega))
  have kX9:=((kX6.trans k7).trans k8).trans k9;have of34:=of3.keep k4;have nX:X2.size ≠ X.size:=by omega
  have nR:X2.size ≠ r':=by have:=(hp.keep kX).lt (by omega); omega
  have hng:NoG ps x ↔ ¬ (ps.getD x.f.toNat default).1 * (x.d * (ps.getD x.t.toNat default).2) < x.n * (ps.getD x.t.toNat default).1 * (ps.getD x.f.toNat default).2:=Iff.rfl
  by_cases hgn:(ps.getD x.f.toNat default).1 * (x.d * (ps.getD x.t.toNat default).2) < x.n * (ps.getD x.t.toNat default).1 * (ps.getD x.f.toNat default).2
  · rw [decide_eq_true hgn] at f9;have hpo:=gd X9 false kX9 ⟨fun h => (by cases h),fun h => absurd hgn (hng.1 (by have:=h k hkl; rwa [hx] at this))⟩
    clear hl hp hall gd hck hoff hprA hkl hk hgn hng hm1 hm2 hm3 hm4 kX k2 kX2 k3 k4 k24 k5 k6 kX6 k7 k8 k9 kX9 ow2 of3 of4 of5 of6 of56 oth5 oth6 p1 hx a1 a2 a3 a4 a5 a6 a7 a8 a9 b1 b2 b3 b4 d1 d2 d3 d4 z3 z4;generalize (ps.getD x.f.toNat default).1 = fn at *;generalize (ps.getD x.f.toNat default).2 = fd at *;generalize (ps.getD x.t.toNat default).1 = tn at *;generalize (ps.getD x.t.toNat default).2 = td at *
    repeat' (first | simp only [↓Zabr,↓Zabm,↓Zabo,↓Zabq,↓Zaah,↓Zabl,↓Zabn,↓Zabp,↓Zaci,↓Zach,↓Zacc,↓Zaai,↓Zaca,↓sxDL_alloc,↓Zabz,↓Zabx,↓Zaby,↓sxD_same,↓Zacn,↓Zaar,↓Zaak,↓Zaaj,↓Zaaq,↓Zaat,↓Zaal,↓Zaan,↓Zaao,↓Zaau,↓Zack,↓bxPut,↓Zabj,↓Zabi,↓Zabk,↓Zaaf,↓Zaag,↓Zaae,↓Zabd,↓Zabc,↓loopQ_ret,↓Zabh,↓Zacl,↓Zacm,↓Zaco,↓Zaaz,↓Zaax,↓Zaay,Zacj,Zaad,Zabb,Zabs,Zacg,Zabf,List.nil_append,↓reduceIte,Nat.reduceEqDiff,Nat.reduceLT,dec_T,size_relow,Zaaa,Nat.add_zero,one1,Option.bind_some,Option.map_some, *,ldO,ldI,ldRt,faO0,faO1,alF,Zabf,Nat.zero_add] | (with_reducible first | refine Zabu (by assumption) (by decide +kernel) ?_ | refine Zabt (by decide +kernel) ?_ | refine Zacb (by decide +kernel) ?_ | refine Zabw ?_))
    refine sxDL_lateE q6 [7,9] (by decide +kernel) (by decide +kernel) (fun j hj => ?_) ?_
    · simp only [List.mem_cons,List.not_mem_nil,or_false] at hj;rcases hj with rfl | rfl
      · exact late_one rfl rfl rfl rfl rfl (by decide +kernel) rfl rfl of34 (Ne.symm nX)
      · exact late_one rfl rfl rfl rfl rfl (by decide +kernel) rfl rfl of34 (Ne.symm nR)
    clear of34 nX nR
    repeat' (first | simp only [↓sxD_same,↓bxPut,↓Zaco,↓Zaaz,Zacj,Zacg,List.map,List.append_nil,↓reduceIte,Nat.reduceEqDiff,Nat.reduceLT,Zaaa,Option.map_some, *,ldO,ldF] | (with_reducible first | refine Zabu (by assumption) (by decide +kernel) ?_ | refine Zabt (by decide +kernel) ?_ | refine Zacb (by decide +kernel) ?_ | refine Zabw ?_))
  · rw [decide_eq_false hgn] at f9;have hall2:∀ i,i < k + 1 → NoG ps (l.getD i default):=fun i hi => by
      rcases Nat.lt_or_ge i k with h1 | h1
      · exact hall i h1
      · rw [show i = k by omega,hx]; exact hng.2 hgn
    clear hl hp hall gd hck hoff hprA hkl hk hgn hng hm1 hm2 hm3 hm4 kX k2 kX2 k3 k4 k24 k5 k6 kX6 k7 k8 k9 ow2 of3 of4 of5 of6 of56 oth5 oth6 p1 hx a1 a2 a3 a4 a5 a6 a7 a8 a9 b1 b2 b3 b4 d1 d2 d3 d4 z3 z4;generalize (ps.getD x.f.toNat default).1 = fn at *;generalize (ps.getD x.f.toNat default).2 = fd at *;generalize (ps.getD x.t.toNat default).1 = tn at *;generalize (ps.getD x.t.toNat default).2 = td at *
    repeat' (first | simp only [↓Zabr,↓Zabm,↓Zabo,↓Zabq,↓Zaah,↓Zabl,↓Zabn,↓Zabp,↓Zaci,↓Zach,↓Zacc,↓Zaai,↓Zaca,↓sxDL_alloc,↓Zabz,↓Zabx,↓Zaby,↓sxD_same,↓Zacn,↓Zaar,↓Zaak,↓Zaaj,↓Zaaq,↓Zaat,↓Zaal,↓Zaan,↓Zaao,↓Zaau,↓Zack,↓bxPut,↓Zabj,↓Zabi,↓Zabk,↓Zaaf,↓Zaag,↓Zaae,↓Zabd,↓Zabc,↓loopQ_ret,↓Zabh,↓Zacl,↓Zacm,↓Zaco,↓Zaaz,↓Zaax,↓Zaay,Zacj,Zaad,Zabb,Zabs,Zacg,Zabf,List.nil_append,↓reduceIte,Nat.reduceEqDiff,Nat.reduceLT,dec_T,size_relow,Zaaa,Nat.add_zero,one1,Option.bind_some,Option.map_some, *,ldO,ldI,ldRt,faO0,faO1,alF,Zabf,Nat.zero_add] | (with_reducible first | refine Zabu (by assumption) (by decide +kernel) ?_ | refine Zabt (by decide +kernel) ?_ | refine Zacb (by decide +kernel) ?_ | refine Zabw ?_))
    refine sxDL_lateE q6 [7,9] (by decide +kernel) (by decide +kernel) (fun j hj => ?_) ?_
    · simp only [List.mem_cons,List.not_mem_nil,or_false] at hj;rcases hj with rfl | rfl
      · exact late_one rfl rfl rfl rfl rfl (by decide +kernel) rfl rfl of34 (Ne.symm nX)
      · exact late_one rfl rfl rfl rfl rfl (by decide +kernel) rfl rfl of34 (Ne.symm nR)
    clear of34 nX nR
    repeat' (first | simp only [↓sxD_same,↓bxPut,↓Zaco,↓Zaaz,Zacj,Zaad,Zabb,sxIfB_f,List.map,List.append_nil,↓reduceIte,Nat.reduceEqDiff,Nat.reduceLT,true_and,Zaaa,Option.map_some, *,ldO,ldF] | (with_reducible first | refine Zabu (by assumption) (by decide +kernel) ?_ | refine Zabt (by decide +kernel) ?_ | refine Zacb (by decide +kernel) ?_ | refine Zabw ?_))
    exact ⟨l.length - (k + 1),by omega,k + 1,rfl,by omega,hall2,rfl⟩
end Go.Proofs.YtcmaipijkjillaaDoor
