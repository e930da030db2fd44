/- Is, by the reference. -/
import Derived.Test.YtdfjaoncabanbaaDoorS2
set_option linter.unusedVariables false
set_option linter.unusedSimpArgs false
set_option linter.unusedSectionVars false

namespace Go.Proofs.YtdfjaoncabanbaaDoor
open Go Go.AM
set_option maxRecDepth 10000

theorem sgn3_less {x y:Int}:sgn3 x y < 0 ↔ x < y:=by
  unfold sgn3;split
  · exact ⟨fun _ => by omega,fun _ => by decide⟩
  · split
    · exact ⟨fun h => absurd h (by decide),fun _ => by omega⟩
    · exact ⟨fun h => absurd h (by decide),fun _ => by omega⟩
theorem sgn3_more {x y:Int}:0 < sgn3 x y ↔ y < x:=by
  unfold sgn3;split
  · exact ⟨fun h => absurd h (by decide),fun _ => by omega⟩
  · split
    · exact ⟨fun _ => by omega,fun _ => by decide⟩
    · exact ⟨fun h => absurd h (by decide),fun _ => by omega⟩

variable {S:AM.Sys} (hS:Only S 5)
include hS

set_option maxHeartbeats 8000000 in
theorem rSaddle_runs (g:List (List Int)) (gv v1 v2:Value) (p q:Int) (x y:List Int) (dx dy:Int) (r o r1 o1 r2 o2:Nat) (H:Heap) (hdx:R63 dx) (hdy:R63 dy) (hgr:Grp H) (hL:H.low ≤ H.size) (hg:SlG H gv g r o) (hx:SlI .i64 H v1 x r1 o1) (hy:SlI .i64 H v2 y r2 o2) (hG:IsG g) :
    ∃ bb H',Runs Tryd.prog S (.fn 20) [gv,.agg ⟨[.int .i64 p,.int .i64 q,v1,.int .i64 dx,v2,.int .i64 dy]⟩] H (.bool bb) H' ∧ Keep H H' ∧ (bb = true ↔ SadOk g p q x dx y dy):=by
  suffices h:WCall Tryd.prog S (.fn 20) [gv,.agg ⟨[.int .i64 p,.int .i64 q,v1,.int .i64 dx,v2,.int .i64 dy]⟩] H (fun u H' => ∃ bb,u = .bool bb ∧ Keep H H' ∧ (bb = true ↔ SadOk g p q x dx y dy)) by
    obtain ⟨_,H',hr,bb,rfl,h⟩:=h; exact ⟨bb,H',hr,h⟩
  obtain ⟨a,cap,rfl⟩:=hg.v0;obtain ⟨a1,cap1,rfl⟩:=hx.v0;obtain ⟨a2,cap2,rfl⟩:=hy.v0;obtain ⟨H2,e1,k02,sb2⟩:=boxS H p q dx dy (.slice a1 x.length cap1) (.slice a2 y.length cap2);have hcs:(Value.agg ⟨[.int .i64 p,.int .i64 q,.slice a1 x.length cap1,.int .i64 dx,.slice a2 y.length cap2,.int .i64 dy]⟩).cells.toList = [.int .i64 p,.int .i64 q,.slice a1 x.length cap1,.int .i64 dx,.slice a2 y.length cap2,.int .i64 dy]:=rfl;refine Zaaw Tryd.func20 rfl (Nat.le_of_ble_eq_true rfl) (hS.no rfl _ _) ?_
  rw [Tryd.ntmps20,Tryd.results20];have l2:=k02.low hL;have hgl:=hG.1;have hgl2:=hG.2.1;have no:∀ X,Keep H X → ¬ SadOk g p q x dx y dy → ∃ bb,Value.bool false = .bool bb ∧ Keep H X ∧ (bb = true ↔ SadOk g p q x dx y dy):=fun X hk hn => ⟨false,rfl,hk,⟨fun h => (by cases h),fun h => absurd h hn⟩⟩
  have rr2:=sb2.rows;obtain ⟨Ha,H3,k3,l3,f3,d3⟩:=drawn l2 (rMix_runs hS _ x dx (g.length:Int) 2199023255552 hdx (by decide) (by omega) r1 o1 (H2.relow H2.size) (Nat.le_refl _) ((hx.keep k02).keep (Keep.relowS H2)))
  have k03:=k02.trans k3
  by_cases h2:Mix x dx (g.length:Int) 2199023255552
  case neg =>
    rw [decide_eq_false h2] at f3;have hpo:=no H3 k03 (fun h => h2 h.2.1)
    clear hg hx hy hG k02 hgr sb2 no k3 k03 h2 hgl hgl2
    repeat' (first | simp only [↓Zabr,↓Zabm,↓Zabo,↓Zabq,↓Zaag,↓Zaah,↓Zabl,↓Zabp,↓Zaci,↓Zach,↓Zacb,↓Zaai,↓Zabz,↓sxDL_pick,↓Zaby,↓sxDL_unOp,↓Zabw,↓Zabx,↓sxD_same,↓Zacn,↓Zaav,↓Zaar,↓Zaaj,↓Zaas,↓bxOp_alloc,↓Zaal,↓Zaaq,↓Zaat,↓bxOp_un,↓Zaan,↓Zaao,↓Zaau,↓Zaap,↓Zack,↓bxPut,↓Zabj,↓Zabk,↓Zabh,↓Zacl,↓Zacm,↓Zaco,↓Zaba,↓Zaay,↓Zaaz,↓dstAt,↓Zabb,Zacj,una_nf,Zaac,Zabs,sxGuardB_ft,Zacg,Zabf,List.map,List.nil_append,List.append_nil,↓reduceIte,Nat.reduceEqDiff,Nat.reduceLT,Zaaa,Option.map_some, *,argF,List.getD_cons_zero,List.getD_cons_succ,faS1,Q.ldP,lenG,Nat.zero_add] | (with_reducible first | refine Zabu (by assumption) (by decide +kernel) ?_ | refine Zabt (by decide +kernel) ?_ | refine Zaca (by decide +kernel) ?_ | refine Zabv ?_))
  rw [decide_eq_true h2] at f3;have sb3:=sb2.keep k3;have rc3:=sb3.cols;have hob:=SlG_at (hg.keep k03) (k:=0) (by omega)
  obtain ⟨ix0,xv0,r00,o00,rd00,s00⟩:=hob;obtain ⟨a00,c00,rfl⟩:=s00.v0;have ix0:aIndexAt Tryd.prog 22 (.slice a g.length cap) (.int .i64 0) = some (.pointer (some ⟨r,o,none⟩)):=ix0;have rd00:H3.read r o 1 = some [.slice a00 (g.getD 0 default).length c00]:=rd00;obtain ⟨gw,hgw⟩:∃ gw,(g.getD 0 default).length = gw:=⟨_,rfl⟩;rw [hgw] at rd00 hgl2;obtain ⟨Hb,H4,k4,l4,f4,d4⟩:=drawn l3 (rMix_runs hS _ y dy (gw:Int) 2199023255552 hdy (by decide) (by omega) r2 o2 (H3.relow H3.size) (Nat.le_refl _) ((hy.keep k03).keep (Keep.relowS H3)))
  have k04:=k03.trans k4
  by_cases h3:Mix y dy (gw:Int) 2199023255552
  case neg =>
    rw [decide_eq_false h3] at f4;have hpo:=no H4 k04 (fun h => h3 (by have:=h.2.2.1; rwa [hgw] at this))
    clear hg hx hy hG k02 hgr sb2 sb3 no k3 k03 k4 k04 h2 h3 hgl hgl2 s00
    repeat' (first | simp only [↓Zabr,↓Zabm,↓Zabo,↓Zabq,↓Zaag,↓Zaah,↓Zabl,↓Zabp,↓Zaci,↓Zach,↓Zacb,↓Zaai,↓Zabz,↓sxDL_pick,↓Zaby,↓sxDL_unOp,↓Zabw,↓Zabx,↓sxD_same,↓Zacn,↓Zaav,↓Zaar,↓Zaaj,↓Zaas,↓bxOp_alloc,↓Zaal,↓Zaaq,↓Zaat,↓bxOp_un,↓Zaan,↓Zaao,↓Zaau,↓Zaap,↓Zack,↓bxPut,↓Zabj,↓Zabk,↓Zabh,↓Zacl,↓Zacm,↓Zaco,↓Zaba,↓Zaay,↓Zaaz,↓dstAt,↓Zabb,Zacj,una_nt,una_nf,Zaac,Zaab,Zabs,sxGuardB_ft,Zacc,Zacg,Zabf,List.map,List.nil_append,List.append_nil,↓reduceIte,Nat.reduceEqDiff,Nat.reduceLT,Zaaa,one1,Option.bind_some,Option.map_some, *,argF,List.getD_cons_zero,List.getD_cons_succ,faS1,faS2,Q.ldP,lenG,lenI,ldIs,Nat.zero_add] | (with_reducible first | refine Zabu (by assumption) (by decide +kernel) ?_ | refine Zabt (by decide +kernel) ?_ | refine Zaca (by decide +kernel) ?_ | refine Zabv ?_))
  rw [decide_eq_true h3] at f4;have sb4:=sb3.keep k4;have rv4:=sb4.val;obtain ⟨Hc,H5,k5,l5,f5,d5⟩:=drawn l4 (rvalue_runs hS p q (H4.relow H4.size));have k05:=k04.trans k5
  by_cases h1:ValOk p q
  case neg =>
    rw [decide_eq_false h1] at f5;have hpo:=no H5 k05 (fun h => h1 h.1)
    clear hg hx hy hG k02 hgr sb2 sb3 sb4 no k3 k03 k4 k04 k5 k05 h1 h2 h3 hgl hgl2 s00
    repeat' (first | simp only [↓Zabr,↓Zabm,↓Zabo,↓Zabq,↓Zaag,↓Zaah,↓Zabl,↓Zabp,↓Zaci,↓Zach,↓Zacb,↓Zaai,↓Zabz,↓sxDL_pick,↓Zaby,↓sxDL_unOp,↓Zabw,↓Zabx,↓sxD_same,↓Zacn,↓Zaav,↓Zaar,↓Zaaj,↓Zaas,↓bxOp_alloc,↓Zaal,↓Zaaq,↓Zaat,↓bxOp_un,↓Zaan,↓Zaao,↓Zaau,↓Zaap,↓Zack,↓bxPut,↓Zabj,↓Zabk,↓Zabh,↓Zacl,↓Zacm,↓Zaco,↓Zaba,↓Zaay,↓Zaaz,↓dstAt,↓Zabb,Zacj,una_nt,una_nf,Zaab,Zabs,Zacc,Zacg,Zabf,List.map,List.nil_append,List.append_nil,↓reduceIte,Nat.reduceEqDiff,Nat.reduceLT,Zaaa,one1,Option.bind_some,Option.map_some, *,argF,List.getD_cons_zero,List.getD_cons_succ,faS0,faS1,faS2,ldRt,Q.ldP,lenG,lenI,ldIs,Nat.zero_add] | (with_reducible first | refine Zabu (by assumption) (by decide +kernel) ?_ | refine Zabt (by decide +kernel) ?_ | refine Zaca (by decide +kernel) ?_ | refine Zabv ?_))
  rw [decide_eq_true h1] at f5;have hokx:AnsOk g x dx:=⟨hG,h2⟩;have hy3:Mix y dy ((g.getD 0 default).length:Int) 2199023255552:=by rw [hgw]; exact h3
  obtain ⟨b1,b2,b3,b4,b5,b6,b7,b8⟩:=ans_rng hokx;obtain ⟨c1,c2,c3,c4,c5⟩:=row_rng hG hy3;have hmy:=hy3;have hval:=h1;obtain ⟨h1a,h1b,-⟩:=h1;rw [hgw] at c1;have sb5:=sb4.keep k5;have rv5:=sb5.val;obtain ⟨H6,v6,k6,g6,q6,R6⟩:=FromRatio_all hS p q H5 (k05.grp hgr) l5 (by omega) (by omega) (by omega)
  have f6:=R6.bx;have k06:=k05.trans k6;obtain ⟨H7,e7,k7,z7,-,-⟩:=box1 H6 [.bool false,.slice none 0 0,.bool false,.slice none 0 0] 68;have ow7:Own H7 H6.size 68 [.bool false,.slice none 0 0,.bool false,.slice none 0 0]:=e7 ▸ Own.new H6 _ _;obtain ⟨H8,p8,s8,ow8,qo8,-,kp8⟩:=storeQ ow7 QShape.empty (q6.keep k7);have q8:=qo8 _ _ _ (q6.keep k7);have k8:=kp8 H6 k7 (Nat.le_refl _);have k08:=k06.trans k8;have sb8:=(sb5.keep k6).keep k8;have c1a:=Nat.le_of_eq c1;have c1b:=Nat.le_of_eq c1.symm;have rd8:=k8.read ((hg.keep k06).lt b3) (k6.read ((hg.keep k05).lt b3) (k5.read ((hg.keep k04).lt b3) (k4.read ((hg.keep k03).lt b3) rd00)));clear c1 b1 h2 h3 hgl hgl2 R6 sb2 sb3 sb4 sb5 q6 qo8 kp8 ow7 k02 k3 k03 k4 k04 k5 s00 hy3;have l05:=l5
  repeat' (first | simp only [↓Zabr,↓Zabm,↓Zabo,↓Zabq,↓Zaag,↓Zaah,↓Zabl,↓Zabp,↓Zaci,↓Zach,↓Zacb,↓Zaai,↓Zabz,↓sxDL_pick,↓Zaby,↓sxDL_unOp,↓Zabw,↓Zabx,↓sxD_same,↓Zacn,↓Zaav,↓Zaar,↓Zaaj,↓Zaas,↓bxOp_alloc,↓Zaal,↓Zaaq,↓Zaat,↓bxOp_un,↓Zaan,↓Zaao,↓Zaau,↓Zaap,↓Zack,↓bxPut,↓Zabj,↓Zabk,↓Zabh,↓Zacl,↓Zacm,↓Zaco,↓Zaba,↓Zaay,↓Zaaz,↓dstAt,↓Zabb,Zacj,una_nt,Zaab,Zabs,Zacc,Zacf,Zabf,List.map,List.nil_append,List.append_nil,↓reduceIte,Nat.reduceEqDiff,Nat.reduceLT,Zaaa,one1,Option.bind_some,Option.map_some, *,argF,List.getD_cons_zero,List.getD_cons_succ,faS0,faS1,faS2,alQ,ldRt,Q.ldP,lenG,lenI,ldIs,Nat.zero_add] | (with_reducible first | refine Zabu (by assumption) (by decide +kernel) ?_ | refine Zabt (by decide +kernel) ?_ | refine Zaca (by decide +kernel) ?_ | refine Zabv ?_))
  clear e1 e7 p8 f3 f4 f5 f6 d3 d4 d5 rr2 rc3 rv4 rv5 rd00;have h8z:H.size < H8.size:=sb8.lt;refine sxL_of (fun m ρ X => ∃ k:Nat,m = gw - k ∧ k ≤ gw ∧ Keep H8 X ∧ (∀ j,j < k → p * dx ≤ colS g x j * q) ∧ ρ 0 = .slice a g.length cap ∧ ρ 3 = .pointer (some ⟨H.size,0,none⟩) ∧ ρ 5 = .pointer (some ⟨H6.size,0,none⟩) ∧ ρ 6 = .int .i64 (k:Int))
    ⟨0,rfl,Nat.zero_le _,Keep.refl _,fun j hj => absurd hj (Nat.not_lt_zero j),rfl,rfl,rfl,rfl⟩ ?_
  rintro m ρ X ⟨k,rfl,hk,kX,hall,e0,e3,e5,e6⟩;have kHX:=k08.trans kX;have gX:=kHX.grp hgr;have lX:=kHX.low hL;have sbX:=sb8.keep kX;have rdX:=kX.read ((hg.keep k08).lt b3) rd8;have owX:=ow8.keep kX;have qX:=q8.keep kX
  by_cases hkl:k < gw
  · have hlt:(k:Int) < (gw:Int):=by omega
    have hw:IntKind.i64.wrap ((k:Int) + 1) = ((k + 1:Nat):Int):=IntWalk.i64_in _ (by omega)
    have rrX:=sbX.rows;obtain ⟨va,Xa,X1,ka,l1,fa,da,qa⟩:=drawnQ lX (rCol_runs hS g _ _ x dx k r o r1 o1 (X.relow X.size) ((Keep.relowS X).grp gX) (Nat.le_refl _) ((hg.keep kHX).keep (Keep.relowS X)) ((hx.keep kHX).keep (Keep.relowS X)) hokx (by omega))
    have g1:=ka.grp gX;have ld1:=own_ldQ (owX.keep ka) (qX.keep ka);obtain ⟨Xc,X3,kc,l3,fc,dc⟩:=drawn l1 (Cmp_all hS va v6 (colS g x k) dx p q (X1.relow X1.size) ((Keep.relowS X1).grp g1) (Nat.le_refl _) qa.addr ((qX.keep ka).addr) (by omega) (by omega))
    have kX3:=(kX.trans ka).trans kc;have kH3:=k08.trans kX3;have hsg:=sgn3_less (x:=colS g x k * q) (y:=p * dx)
    by_cases hc:colS g x k * q < p * dx
    · have hs:=hsg.2 hc;have hsd:decide (sgn3 (colS g x k * q) (p * dx) < 0) = true:=decide_eq_true hs;have hpo:=no X3 kH3 (fun h => by have:=h.2.2.2.1 k (by omega); omega)
      clear hg hx hy hG hgr hall kX kHX ka kc kX3 kH3 owX qX qa k05 k06 k08 k6 k7 k8 ow8 q8 sb8 sbX no hokx b7 b8 c3 c4 c5 hval hsg hs hc g1 gX
      repeat' (first | simp only [↓Zabr,↓Zabm,↓Zabo,↓Zabq,↓Zaag,↓Zabl,↓Zabn,↓Zabp,↓Zaci,↓Zach,↓Zacb,↓Zaai,↓Zabz,↓Zaby,↓sxDL_binOp,↓Zabw,↓sxD_same,↓Zacn,↓Zaar,↓Zaaj,↓Zaaq,↓Zaak,↓Zaan,↓Zaao,↓Zaau,↓Zaap,↓bxPut,↓Zabj,↓Zabi,↓Zabk,↓Zaaf,↓blockQ_ret,↓Zaae,↓Zabe,↓Zabd,↓loopQ_ret,↓Zabh,↓Zacl,↓Zacm,↓Zaco,↓Zaba,↓Zaay,↓Zaaz,Zacj,Zaad,Zabc,Zabs,Zacg,Zabf,List.map,List.nil_append,List.append_nil,↓reduceIte,Nat.reduceEqDiff,Nat.reduceLT,dec_T,Zaaa,one1,Option.bind_some,Option.map_some, *,lenI,ldIs,faS1,Q.ldP,Nat.zero_add] | (with_reducible first | refine Zabu (by assumption) (by decide +kernel) ?_ | refine Zabt (by decide +kernel) ?_ | refine Zaca (by decide +kernel) ?_ | refine Zabv ?_))
    · have hs:=fun h => hc (hsg.1 h)
      have hsd:decide (sgn3 (colS g x k * q) (p * dx) < 0) = false:=decide_eq_false hs;have hall2:∀ j,j < k + 1 → p * dx ≤ colS g x j * q:=fun j hj => by
        rcases Nat.lt_or_ge j k with h | h
        · exact hall j h
        · have:j = k:=by omega
          subst this; omega
      clear hg hx hy hG hgr hall kX kHX ka kc kH3 owX qX qa k05 k06 k08 k6 k7 k8 ow8 q8 sb8 sbX no hokx b7 b8 c3 c4 c5 hval hsg hs hc g1 gX
      repeat' (first | simp only [↓Zabr,↓Zabm,↓Zabo,↓Zabq,↓Zaag,↓Zabl,↓Zabn,↓Zabp,↓Zaci,↓Zach,↓Zacb,↓Zaai,↓Zabz,↓Zaby,↓sxDL_binOp,↓Zabw,↓sxD_same,↓Zacn,↓Zaar,↓Zaaj,↓Zaaq,↓Zaak,↓Zaan,↓Zaao,↓Zaau,↓Zaap,↓bxPut,↓Zabj,↓Zabi,↓Zabk,↓Zaaf,↓blockQ_ret,↓Zaae,↓Zabe,↓Zabd,↓loopQ_ret,↓Zabh,↓Zacl,↓Zacm,↓Zaco,↓Zaba,↓Zaay,↓Zaaz,Zacj,Zaad,Zabc,Zabs,Zacg,Zacf,Zabf,List.map,List.nil_append,List.append_nil,↓reduceIte,Nat.reduceEqDiff,Nat.reduceLT,dec_T,true_and,Zaaa,one1,Option.bind_some,Option.map_some, *,lenI,ldIs,faS1,Q.ldP,Nat.zero_add] | (with_reducible first | refine Zabu (by assumption) (by decide +kernel) ?_ | refine Zabt (by decide +kernel) ?_ | refine Zaca (by decide +kernel) ?_ | refine Zabv ?_))
      exact ⟨gw - (k + 1),by omega,k + 1,rfl,by omega,hall2,rfl⟩
  have hlt:¬ (k:Int) < (gw:Int):=by omega
  have hke:k = gw:=by omega
  rw [hke] at hall;clear hke hk
  repeat' (first | simp only [↓Zabr,↓Zabm,↓Zabo,↓Zabq,↓Zaag,↓Zabl,↓Zabn,↓Zabp,↓Zaci,↓Zach,↓Zacb,↓Zaai,↓Zabz,↓Zaby,↓sxDL_binOp,↓Zabw,↓Zacn,↓Zaar,↓Zaaj,↓Zaaq,↓Zaak,↓Zaan,↓Zaao,↓Zaau,↓Zaap,↓bxPut,↓Zabj,↓Zabi,↓Zabk,↓Zaaf,↓blockQ_ret,↓Zaae,↓Zabe,↓Zabd,↓loopQ_ret,↓Zabh,↓Zacl,↓Zacm,↓Zaco,↓Zaba,↓Zaay,↓Zaaz,Zacj,Zaad,Zabc,Zabs,Zacf,Zabf,List.nil_append,↓reduceIte,Nat.reduceEqDiff,Nat.reduceLT,dec_F,one1,Option.bind_some, *,lenI,ldIs] | (with_reducible first | refine Zabu (by assumption) (by decide +kernel) ?_ | refine Zabt (by decide +kernel) ?_ | refine Zaca (by decide +kernel) ?_ | refine Zabv ?_))
  refine sxL_of (fun m ρ Y => ∃ k:Nat,m = g.length - k ∧ k ≤ g.length ∧ Keep H8 Y ∧ (∀ i,i < k → rowS g y i * q ≤ p * dy) ∧ ρ 0 = .slice a g.length cap ∧ ρ 3 = .pointer (some ⟨H.size,0,none⟩) ∧ ρ 5 = .pointer (some ⟨H6.size,0,none⟩) ∧ ρ 7 = .int .i64 (k:Int))
    ⟨0,rfl,Nat.zero_le _,kX,fun j hj => absurd hj (Nat.not_lt_zero j),e0,e3,e5,rfl⟩ ?_
  clear kHX gX lX sbX rdX owX qX kX e0 e3 e5 e6 hlt hkl ρ X;rintro m ρ X ⟨k,rfl,hk,kX,hal2,e0,e3,e5,e7⟩;have kHX:=k08.trans kX;have gX:=kHX.grp hgr;have lX:=kHX.low hL;have sbX:=sb8.keep kX;have owX:=ow8.keep kX;have qX:=q8.keep kX
  by_cases hkl:k < g.length
  · have hlt:(k:Int) < (g.length:Int):=by omega
    have hw:IntKind.i64.wrap ((k:Int) + 1) = ((k + 1:Nat):Int):=IntWalk.i64_in _ (by omega)
    have rcX:=sbX.cols;have c3k:=c3 k hkl;have c5k:=c5 k hkl;obtain ⟨va,Xa,X1,ka,l1,fa,da,qa⟩:=drawnQ lX (rRow_runs hS g _ _ y dy k r o r2 o2 (X.relow X.size) ((Keep.relowS X).grp gX) (Nat.le_refl _) ((hg.keep kHX).keep (Keep.relowS X)) ((hy.keep kHX).keep (Keep.relowS X)) hkl (by omega) (by omega) (by omega) (by omega) c5k)
    have qa:QV X1 va (rowS g y k) dy:=qa;have g1:=ka.grp gX;have ld1:=own_ldQ (owX.keep ka) (qX.keep ka);obtain ⟨Xc,X3,kc,l3,fc,dc⟩:=drawn l1 (Cmp_all hS va v6 (rowS g y k) dy p q (X1.relow X1.size) ((Keep.relowS X1).grp g1) (Nat.le_refl _) qa.addr ((qX.keep ka).addr) (by omega) (by omega))
    have kX3:=(kX.trans ka).trans kc;have kH3:=k08.trans kX3;have hsg:=sgn3_more (x:=rowS g y k * q) (y:=p * dy)
    by_cases hc:p * dy < rowS g y k * q
    · have hs:=hsg.2 hc;have hsd:decide (0 < sgn3 (rowS g y k * q) (p * dy)) = true:=decide_eq_true hs;have hpo:=no X3 kH3 (fun h => by have:=h.2.2.2.2 k (by omega); omega)
      clear hg hx hy hG hgr hall hal2 kX kHX ka kc kX3 kH3 owX qX qa k05 k06 k08 k6 k7 k8 ow8 q8 sb8 sbX no hokx b7 b8 c3 c4 c5 hval hsg hs hc g1 gX c3k c5k
      repeat' (first | simp only [↓Zabr,↓Zabm,↓Zabo,↓Zabq,↓Zaag,↓Zabl,↓Zabn,↓Zabp,↓Zaci,↓Zach,↓Zacb,↓Zaai,↓Zabz,↓Zaby,↓sxDL_binOp,↓Zabw,↓sxD_same,↓Zacn,↓Zaar,↓Zaaj,↓Zaaq,↓Zaak,↓Zaan,↓Zaau,↓Zaap,↓bxPut,↓Zabj,↓Zabi,↓Zabk,↓Zaaf,↓blockQ_ret,↓Zaae,↓Zabe,↓Zabd,↓loopQ_ret,↓Zabh,↓Zacl,↓Zacm,↓Zaco,↓Zaba,↓Zaay,↓Zaaz,Zacj,Zaad,Zabc,Zabs,Zacg,Zabf,List.map,List.nil_append,List.append_nil,↓reduceIte,Nat.reduceEqDiff,Nat.reduceLT,dec_T,Zaaa,Option.map_some, *,lenG,faS2,Q.ldP,Nat.zero_add] | (with_reducible first | refine Zabu (by assumption) (by decide +kernel) ?_ | refine Zabt (by decide +kernel) ?_ | refine Zaca (by decide +kernel) ?_ | refine Zabv ?_))
    · have hs:=fun h => hc (hsg.1 h)
      have hsd:decide (0 < sgn3 (rowS g y k * q) (p * dy)) = false:=decide_eq_false hs;have hall2:∀ j,j < k + 1 → rowS g y j * q ≤ p * dy:=fun j hj => by
        rcases Nat.lt_or_ge j k with h | h
        · exact hal2 j h
        · have:j = k:=by omega
          subst this; omega
      clear hg hx hy hG hgr hall hal2 kX kHX ka kc kH3 owX qX qa k05 k06 k08 k6 k7 k8 ow8 q8 sb8 sbX no hokx b7 b8 c3 c4 c5 hval hsg hs hc g1 gX c3k c5k
      repeat' (first | simp only [↓Zabr,↓Zabm,↓Zabo,↓Zabq,↓Zaag,↓Zabl,↓Zabn,↓Zabp,↓Zaci,↓Zach,↓Zacb,↓Zaai,↓Zabz,↓Zaby,↓sxDL_binOp,↓Zabw,↓sxD_same,↓Zacn,↓Zaar,↓Zaaj,↓Zaaq,↓Zaak,↓Zaan,↓Zaau,↓Zaap,↓bxPut,↓Zabj,↓Zabi,↓Zabk,↓Zaaf,↓blockQ_ret,↓Zaae,↓Zabe,↓Zabd,↓loopQ_ret,↓Zabh,↓Zacl,↓Zacm,↓Zaco,↓Zaba,↓Zaay,↓Zaaz,Zacj,Zaad,Zabc,Zabs,Zacg,Zacf,Zabf,List.map,List.nil_append,List.append_nil,↓reduceIte,Nat.reduceEqDiff,Nat.reduceLT,dec_T,true_and,Zaaa,Option.map_some, *,lenG,faS2,Q.ldP,Nat.zero_add] | (with_reducible first | refine Zabu (by assumption) (by decide +kernel) ?_ | refine Zabt (by decide +kernel) ?_ | refine Zaca (by decide +kernel) ?_ | refine Zabv ?_))
      exact ⟨g.length - (k + 1),by omega,k + 1,rfl,by omega,hall2,rfl⟩
  have hlt:¬ (k:Int) < (g.length:Int):=by omega
  have hke:k = g.length:=by omega
  rw [hke] at hal2;have hsad:SadOk g p q x dx y dy:=⟨hval,hokx.2,hmy,by rw [hgw]; exact hall,hal2⟩
  have hpo:∃ bb,Value.bool true = .bool bb ∧ Keep H X ∧ (bb = true ↔ SadOk g p q x dx y dy):=⟨true,rfl,kHX,fun _ => hsad,fun _ => rfl⟩
  clear hg hx hy hG hgr hall hal2 kX kHX owX qX k05 k06 k08 k6 k7 k8 ow8 q8 sb8 sbX no hokx b7 b8 c3 c4 c5 hval gX hke hsad hmy hk
  repeat' (first | simp only [↓Zabr,↓Zabm,↓Zabo,↓Zabq,↓Zaag,↓Zabl,↓Zabn,↓Zabp,↓Zaci,↓Zach,↓Zacb,↓Zaai,↓Zabz,↓Zaby,↓sxDL_binOp,↓Zabw,↓Zacn,↓Zaar,↓Zaaj,↓Zaaq,↓Zaak,↓Zaan,↓Zaau,↓Zaap,↓bxPut,↓Zabj,↓Zabi,↓Zabk,↓Zaaf,↓blockQ_ret,↓Zaae,↓Zabe,↓Zabd,↓loopQ_ret,↓Zabh,↓Zacl,↓Zacm,↓Zaco,↓Zaba,↓Zaay,↓Zaaz,Zacj,Zaad,Zabc,Zabs,Zacf,Zabf,List.nil_append,↓reduceIte,Nat.reduceEqDiff,Nat.reduceLT,dec_F, *,lenG] | (with_reducible first | refine Zabu (by assumption) (by decide +kernel) ?_ | refine Zabt (by decide +kernel) ?_ | refine Zaca (by decide +kernel) ?_ | refine Zabv ?_))
end Go.Proofs.YtdfjaoncabanbaaDoor
