/- What sets of claimants would have more, sorted: by the program. -/
import Derived.Test.YtmpbapffjapghaaG0
import Derived.Test.YtmpbapffjapghaaG1
set_option linter.unusedVariables false
set_option linter.unusedSimpArgs false
set_option linter.unusedSectionVars false

namespace Go.Proofs.Ytmpbapffjapghaa
open Go Go.AM
set_option maxRecDepth 10000

def ltW (x y:Pt):Bool:=decide (y.2 < x.2 ∨ (x.2 = y.2 ∧ x.1 < y.1))
theorem swoW:Sort.SWO ltW where
  irrefl:=fun x => by simp [ltW]
  trans:=fun x y z h1 h2 => by simp only [ltW,decide_eq_true_eq] at *; omega
  ntrans:=fun x y z h1 h2 => by simp only [ltW,decide_eq_false_iff_not] at *; omega
def exW (e:Int) (c w:List Int) (d:Int) (s:Nat):Int:=gv e c s * d - inS s w.length w
def wl (e:Int) (c w:List Int) (d:Int) (k:Nat):List Pt:=(List.range k).map fun i => (((i + 1:Nat):Int),exW e c w d (i + 1))
theorem wl_len (e:Int) (c w:List Int) (d:Int) (k:Nat):(wl e c w d k).length = k:=by simp [wl]
theorem wl_succ (e:Int) (c w:List Int) (d:Int) (k:Nat):wl e c w d (k + 1) = wl e c w d k ++ [(((k + 1:Nat):Int),exW e c w d (k + 1))]:=by simp [wl,List.range_succ]
theorem gv_rng {e:Int} {c:List Int} (hp:Q.Prob e c) (s:Nat):0 ≤ gv e c s ∧ gv e c s ≤ 100000:=by
  have hc:=hp.2.2.1;have h0:0 ≤ outS s c.length c:=by
    unfold outS;refine sum_nonneg fun x hx => ?_
    obtain ⟨i,hi,rfl⟩:=List.mem_map.1 hx;have:=hc _ (getD_mem (d:=0) (List.mem_range.1 hi));split <;> omega
  have:=hp.1;unfold gv; omega
theorem shr_rng {e:Int} {c w:List Int} {d:Int} (hp:Q.Prob e c) (hs:Q.Shr e c w d):∀ i,i < w.length → 0 ≤ w.getD i 0 ∧ w.getD i 0 ≤ 100000000000:=fun i hi => by
  have h1:=hs.2.2.1 i hi;have h2:=hp.2.2.1 _ (getD_mem (d:=0) (show i < c.length by rw [← hs.1]; exact hi))
  have h3:c.getD i 0 * d ≤ 100000 * 1000000:=Int.mul_le_mul h2.2 hs.2.1.2 (by have:=hs.2.1.1; omega) (by decide)
  omega
theorem ex_rng {e:Int} {c w:List Int} {d:Int} (hp:Q.Prob e c) (hs:Q.Shr e c w d) (s:Nat):(0 ≤ gv e c s * d ∧ gv e c s * d ≤ 100000000000) ∧ 0 ≤ inS s w.length w ∧ inS s w.length w ≤ 700000000000:=by
  have h1:=gv_rng hp s;have h2:=hs.2.1;have h3:gv e c s * d ≤ 100000 * 1000000:=Int.mul_le_mul h1.2 h2.2 (by omega) (by decide)
  have h4:0 ≤ gv e c s * d:=Int.mul_nonneg h1.1 (by omega)
  have h5:=inS_rng (s:=s) (k:=w.length) (n:=w.length) (shr_rng hp hs) (Nat.le_refl _);have h6:(w.length:Int) ≤ 7:=by rw [hs.1]; exact hp.2.1.2
  exact ⟨⟨h4,by omega⟩,h5.1,by omega⟩
theorem PtsIn.lst {L:Nat} {H0 H:Heap} {v:Value} {xs:List Pt} (h:LstG stE 43 L H v xs) (hk:Keep H0 H) (hg:Grp H0) (hL:H0.size ≤ L) (hm:xs.length ≤ 60000):PtsIn H0 H v xs.toArray:=by
  rcases h with ⟨rfl,rfl⟩ | ⟨b,r,cells,hb,hl,ha,hf,rfl,hp,hc⟩
  · exact ⟨fun i hi => by simp at hi,by simp,hg,hk,.inl ⟨rfl,rfl⟩⟩
  · obtain ⟨h1,h2⟩:=chunks_flat hc;have h3:flat celTwo xs.toArray = cells:=by rw [h1]; rfl
    refine ⟨allP_mem.2 h2,by simpa using hm,hg,hk,.inr ⟨by simpa using hp,b,r,false,by simp,⟨hk,Nat.le_trans hL hb,ha.ge,hg,(fun x hx => by cases hx),.inr ⟨rfl,?_,?_⟩⟩⟩⟩
    · rw [h3]; exact ha
    · rw [h3]; exact hf
theorem perm_all {d R:Array Pt} (h:Sort.PermIn 0 d.size d R):R.toList.Perm d.toList:=by
  obtain ⟨h1,_,h3⟩:=h;have e1:d.extract 0 d.size = d:=by simp
  have e2:R.extract 0 d.size = R:=by rw [← h1]; simp
  rw [e1,e2] at h3;exact h3

variable {S:AM.Sys} (hS:Only S 5)
include hS

set_option maxHeartbeats 2000000 in
theorem wishC_runs (x y:Pt) (H:Heap) (hL:H.low ≤ H.size):∃ z H',Keep H H' ∧ (z < 0 ↔ ltW x y = true) ∧ Runs Try.prog S (.fn 31) [.agg ⟨pc x⟩,.agg ⟨pc y⟩] H (.int .i64 z) H':=by
  suffices h:WCall Try.prog S (.fn 31) [.agg ⟨pc x⟩,.agg ⟨pc y⟩] H (fun v H' => v = .int .i64 (if cmp3 y.2 x.2 = 0 then cmp3 x.1 y.1 else cmp3 y.2 x.2) ∧ Keep H H') by
    obtain ⟨_,H',hr,rfl,hk⟩:=h;refine ⟨_,H',hk,?_,hr⟩;unfold ltW cmp3;rw [decide_eq_true_iff];split <;> split <;> (try split) <;> (try split) <;> omega
  obtain ⟨H1,e1,hK1,g2,g0,g1⟩:=boxSt H x;obtain ⟨H2,e2,hK2,p2,p0,p1⟩:=boxSt H1 y;have hz1:H.size < H1.size:=by rw [← e1,size_new]; omega
  have q0:=hK2.read hz1 g0;have q1:=hK2.read hz1 g1;have hK:=hK1.trans hK2;have hL2:=hK.low hL;have f1:=(cmpV_runs hS y.2 x.2 (H2.relow H2.size)).bx;have f2:=(cmpV_runs hS x.1 y.1 (H2.relow H2.size)).bx;obtain ⟨z1,hz1'⟩:∃ z,z = cmp3 y.2 x.2:=⟨_,rfl⟩;obtain ⟨z2,hz2'⟩:∃ z,z = cmp3 x.1 y.1:=⟨_,rfl⟩;have r1:R64 z1:=by rw [hz1']; exact cmp3_r _ _
  have r2:R64 z2:=by rw [hz2']; exact cmp3_r _ _
  rw [← hz1'] at f1;rw [← hz2'] at f2;rw [← hz1',← hz2'];have bs:=bs2 (H2.relow H2.size) z1 z2;have k3:=Keep.newExact (H2.relow H2.size) [.int .i64 z1,.int .i64 z2] 3;have s3:=two_sl (H2.relow H2.size) z1 z2 r1 r2;obtain ⟨H3,hH3⟩:∃ H3,H3 = (H2.relow H2.size).newExact [.int .i64 z1,.int .i64 z2] 3:=⟨_,rfl⟩;rw [← hH3] at bs k3 s3;have k4:=Keep.draw k3;have fd3:∀ (all:List Oper) (n:Nat) (k:Heap → Prop),sxD all n H2 H3 k = k (H3.relow (Nat.min H2.low H3.low)):=fun all n k => sxD_keep k3 k
  obtain ⟨H4,hH4⟩:∃ H4,H4 = H3.relow (Nat.min H2.low H3.low):=⟨_,rfl⟩;have s4:SlI .i64 (H4.relow H4.size) (.slice (some ⟨H2.size,0,none⟩) ([z1,z2] : List Int).length 2) [z1,z2] H2.size 0:=by rw [hH4]; exact ⟨s3.isv,fun i hi => s3.rd i hi,s3.lt,s3.ml⟩
  rw [← hH4] at k4 fd3;have f3:∀ (K:Value → Heap → Prop) (b:Blk K),sxCallB Try.prog S (.fn 32) [.slice (some ⟨H2.size,0,none⟩) 2 2] (H4.relow H4.size) K b = K (.int .i64 (if z1 = 0 then z2 else z1)) (H4.relow H4.size):=(cmpOr_runs hS z1 z2 _ _ _ _ s4).bx
  have hL4:=k4.low hL2;have hK4:=hK.trans k4;obtain ⟨z,hz⟩:∃ z,z = if z1 = 0 then z2 else z1:=⟨_,rfl⟩
  rw [← hz] at f3;rw [← hz];clear hz hH3 hH4 s3 s4 k3 k4 hz1' hz2' r1 r2 hK hK1 hK2 hz1 g0 g1 g2 p2;refine call_of Try.func31 rfl (Nat.le_of_ble_eq_true rfl) (hS.no rfl _ _) ?_
  rw [Try.ntmps31,Try.results31]
  repeat' (first | simp only [↓Zadf,↓Zadi,↓Zadk,↓Zadj,↓Zafk,↓Zafj,↓Zaey,↓Zaau,↓Zadp,↓Zadv,↓Zaeg,↓Zaec,↓Zaex,↓Zafq,↓Zaay,↓Zaba,↓Zabc,↓Zabn,↓Zabj,↓Zabz,↓bxPut,↓Zadb,↓Zacy,↓Zafo,↓Zafp,↓Zafs,↓Zacj,↓Zacg,↓Zach,Zafm,Zadm,Zacs,List.map,List.nil_append,List.append_nil,↓reduceIte,Nat.reduceEqDiff,Nat.reduceLT,true_and,Zadd,Zaae,Nat.add_zero,one1,Option.bind_some, *,argF,List.getD_cons_zero,List.getD_cons_succ,Q.cells_agg,faS0,faS1,ldC,one1] | (with_reducible first | refine Zadr (by assumption) (by decide +kernel) ?_ | refine Zadq (by decide +kernel) ?_ | refine Zaew (by decide +kernel) ?_ | refine Zadw ?_))
theorem sorted_ws (H0 H:Heap) (v:Value) (d:Array Pt) (hL0:H0.low ≤ H0.size) (h:PtsIn H0 H v d) :
    ∃ u H1 R,Runs Try.prog S (.fn 30) [v,.func (.func 31) ⟨[]⟩ ⟨[]⟩] H u H1 ∧ PtsIn H0 H1 v R ∧ R.size = d.size ∧ Sort.SortedIn ltW 0 R.size R ∧ R.toList.Perm d.toList:=by
  obtain ⟨hV,hm,hg,hk,⟨h1,rfl⟩ | ⟨hp,b,r,k,rfl,ha⟩⟩:=h
  · obtain ⟨u,hR⟩:=sortN_runs hS (.func (.func 31) ⟨[]⟩ ⟨[]⟩) H;exact ⟨u,H,d,hR,⟨hV,hm,hg,hk,.inl ⟨h1,rfl⟩⟩,rfl,fun i j _ _ hj => by omega,.refl _⟩
  · have hc:CmpP S 31 [] [] (onH H0) R2 ltW:=fun Hx x y hk _ _ => by
      obtain ⟨z,H2,hk2,hz,hR⟩:=wishC_runs hS x y Hx (hk.low hL0);exact ⟨z,H2,hk2,hz,hR⟩
    obtain ⟨u,H1,hR,R,p1,p2,p3,p4,p5,p6⟩:=sortP_runs hS hc hL0 (c:=d.size) swoW d H hm ha hV;refine ⟨u,H1,R,hR,⟨p3,by omega,hg,p5.keep,.inr ⟨by omega,b,r,k,by rw [p4],p5⟩⟩,p4,?_,perm_all p1⟩
    rw [p4]; exact p2

set_option maxHeartbeats 4000000 in
theorem wishes_runs (e:Int) (v v2:Value) (c w:List Int) (d:Int) (r o r2 o2:Nat) (H:Heap) (hg:Grp H) (hL:H.low ≤ H.size) (hc:SlI .i64 H v c r o) (hl:SlI .i64 H v2 w r2 o2) (hp:Q.Prob e c) (hs:Q.Shr e c w d) :
    ∃ u H' R,Runs Try.prog S (.fn 18) [.int .i64 e,v,.agg ⟨[v2,.int .i64 d]⟩] H u H' ∧ PtsIn H H' u R ∧ Sort.SortedIn ltW 0 R.size R ∧ R.toList.Perm (wl e c w d (2 ^ c.length - 2)):=by
  suffices h:WCall Try.prog S (.fn 18) [.int .i64 e,v,.agg ⟨[v2,.int .i64 d]⟩] H (fun u H' => ∃ R,PtsIn H H' u R ∧ Sort.SortedIn ltW 0 R.size R ∧ R.toList.Perm (wl e c w d (2 ^ c.length - 2))) by
    obtain ⟨u,H',hr,R,h⟩:=h; exact ⟨u,H',R,hr,h⟩
  obtain ⟨a,cap,rfl⟩:=hc.v0;obtain ⟨a2,cap2,rfl⟩:=hl.v0;have h7:=hp.2.1;have hwl:=hs.1;have hp2:=pow_small c.length (by omega)
  have hpw:2 ≤ 2 ^ c.length:=by
    have:=Nat.pow_le_pow_right (n:=2) (show 0 < 2 by decide) (show 1 ≤ c.length by omega)
    simpa using this
  obtain ⟨H1,e1,hK1,hz1,rd2,rd0,rd1⟩:=Q.boxP H (.slice a2 w.length cap2) (.int .i64 d);have hL1:=hK1.low hL;have hg1:=hK1.grp hg;obtain ⟨vg,rg,H2,RG,k2,sg,_⟩:=game_runs hS e _ c r o H1 hg1 hL1 (hc.keep hK1) hp;have f2:=RG.bx;obtain ⟨ag,cg,rfl⟩:=sg.v0;have hgl:=gvs_len e c;have k02:=hK1.trans k2;have hL2:=k02.low hL;have hg2:=k02.grp hg;have l2:=hl.keep k02;have hrng:=shr_rng hp hs;have hN:∃ N,2 ^ c.length = N:=⟨_,rfl⟩;obtain ⟨N,hN⟩:=hN;rw [hN] at hgl hpw hp2 ⊢;have hga:∀ s,s < N → (gvs e c).getD s 0 = gv e c s:=fun s h => gvs_at (by rw [hN]; exact h)
  have fev:∀ X:Heap,∀ (K:Value → Heap → Prop) (b:Blk K),sxCallB Try.prog S (.fn 27) [.int .i64 (c.length:Int)] X K b = K (.int .i64 ((N - 1:Nat):Int)) X:=fun X => by
    have:=(every_runs hS c.length (by omega) X).bx
    rwa [hN] at this
  have rds:=k2.read hz1 rd0;have rdd:=k2.read hz1 rd1;rw [hgl] at sg f2;clear RG hc hl rd0 rd1 rd2 hK1 hg1 hL1;refine call_of Try.func18 rfl (Nat.le_of_ble_eq_true rfl) (hS.no rfl _ _) ?_
  rw [Try.ntmps18,Try.results18];have hex:=fun s => ex_rng hp hs s
  have hwl7:w.length ≤ 7:=by omega
  have hz12:=k2.size;clear hs hwl h7 k2
  repeat' simp only [↓Zadi,↓Zadk,↓Zaat,↓Zade,↓Zadj,↓Zafk,↓Zafj,↓Zafq,↓Zabt,↓Zaay,↓Zaba,↓Zabz,↓bxPut,↓Zadb,↓Zacy,↓Zafo,↓Zafp,↓Zafs,↓Zacj,↓Zacg,↓Zach,Zadm,Zacs,List.map,List.nil_append,List.append_nil,↓reduceIte,Nat.reduceEqDiff,Nat.reduceLT, *,argF,List.getD_cons_zero,List.getD_cons_succ,Q.cells_agg]
  clear f2 e1;refine sxL_of (fun m ρ X => ∃ (k:Nat) (lv:Value),m = N - k ∧ k + 2 ≤ N ∧ Keep H2 X ∧ Grp X ∧ LstG stE 43 H2.size X lv (wl e c w d k) ∧ ρ 1 = .slice a c.length cap ∧ ρ 5 = .pointer (some ⟨H.size,0,none⟩) ∧ ρ 7 = .slice ag N cg ∧ ρ 8 = lv ∧ ρ 9 = .int .i64 ((k + 1:Nat):Int))
    ⟨0,.slice none 0 0,rfl,by omega,Keep.refl _,hg2,LstG.nil,rfl,rfl,rfl,rfl,rfl⟩ ?_
  rintro m ρ X ⟨k,lv,rfl,hk,kX,gX,hlst,e1,e5,e7,e8,e9⟩;have fX:=fev X;have hLX:=kX.low hL2
  by_cases hkn:k + 2 < N
  case neg =>
    have hlt:¬ ((k + 1:Nat):Int) < ((N - 1:Nat):Int):=by omega
    have hke:k = N - 2:=by omega
    rw [hke] at hlst;have hob:=PtsIn.lst hlst (k02.trans kX) hg k02.size (by rw [wl_len]; omega)
    obtain ⟨u4,X4,R,RS,p4,_,so4,pm4⟩:=sorted_ws hS H X lv _ hL hob;have f4:=RS.bx;have hpost:∃ R,PtsIn H X4 lv R ∧ Sort.SortedIn ltW 0 R.size R ∧ R.toList.Perm (wl e c w d (N - 2)):=⟨R,p4,so4,by simpa using pm4⟩
    clear RS p4 so4 pm4 hob hlst kX gX hke hkn hk hga hex hrng sg l2 hp2 hpw hgl hN
    repeat' (first | simp only [↓Zadl,↓Zadf,↓Zadi,↓Zadk,↓Zaas,↓Zade,↓Zadg,↓Zafk,↓Zafj,↓Zaey,↓Zaau,↓Zaeo,↓Zadp,↓Zadu,↓Zadv,↓Zaeg,↓Zads,↓Zaec,↓Zaee,↓Zafq,↓Zabt,↓Zaay,↓Zabb,↓Zabc,↓Zabn,↓Zaaz,↓Zabj,↓Zabl,↓Zabz,↓Zabm,↓Zaaw,↓bxPut,↓Zadb,↓Zacz,↓Zaaq,↓Zaao,↓Zacp,↓Zacn,↓Zafs,↓Zacj,↓Zacg,↓Zach,Zafm,Zaak,Zacm,Zadm,Zafg,List.map,List.nil_append,List.append_nil,↓reduceIte,Nat.reduceEqDiff,Nat.reduceLT,dec_F, *,lenI] | (with_reducible first | refine Zadr (by assumption) (by decide +kernel) ?_ | refine Zadq (by decide +kernel) ?_ | refine Zaew (by decide +kernel) ?_ | refine Zadw ?_))
  have hlt:((k + 1:Nat):Int) < ((N - 1:Nat):Int):=by omega
  have hwk:IntKind.i64.wrap (((k + 1:Nat):Int) + 1) = ((k + 1 + 1:Nat):Int):=IntWalk.i64_in _ (by omega)
  have hsg:(gvs e c).length = N:=hgl;have hob:=SlI_ix (H:=X) (w:=gvs e c) (a:=ag) (cap:=cg) (r:=rg) (o:=0) (by rw [hsg]; exact sg.keep kX) (k:=k + 1) (by omega)
  rw [hsg] at hob;have rdg:=((sg.keep kX).rdI (i:=k + 1) (by omega)).1
  rw [hga (k + 1) (by omega)] at rdg
  have hzs:=Nat.lt_of_lt_of_le hz1 hz12;have rds':=kX.read hzs rds;have rdd':=kX.read hzs rdd;have fs:=(sumOf_runs hS (k + 1) (by omega) (.slice a2 w.length cap2) w r2 o2 (X.relow X.size) ((l2.keep kX).keep (Keep.relowS X)) hwl7 hrng).bx
  have hx:=hex (k + 1);have hm1:IntKind.i64.wrap (gv e c (k + 1) * d) = gv e c (k + 1) * d:=IntWalk.i64_in _ (by omega)
  have hm2:IntKind.i64.wrap (gv e c (k + 1) * d - inS (k + 1) w.length w) = exW e c w d (k + 1):=IntWalk.i64_in _ (by omega)
  have hR:R64 (((k + 1:Nat):Int)) ∧ R64 (exW e c w d (k + 1)):=⟨⟨by omega,by omega⟩,⟨by unfold exW; omega,by unfold exW; omega⟩⟩
  have bd:=bdS ((k + 1:Nat):Int) (exW e c w d (k + 1));have hpu:=hlst.pushD (P:=Try.prog) (ts:=#[40,40]) (t:=43) elemOkP (stableS 0) gX hLX kX.size (x:=(((k + 1:Nat):Int),exW e c w d (k + 1))) (stE_at hR.1 hR.2) rfl (by rw [wl_len]; omega)
  obtain ⟨X1,X2,v9,X3,X4,bs7,fd7,hz8,hL8,ap9,rl9,l10,hk10,hg10,_,hL10⟩:=hpu;have bs7':aBuildSlice Try.prog (X.relow X.size) 40 1 [(0,.agg ⟨[.int .i64 ((k + 1:Nat):Int),.int .i64 (exW e c w d (k + 1))]⟩)] = some (.slice (some ⟨X.size,0,none⟩) 1 1,X1):=by rw [← bs7]; exact bs1P (X.relow X.size) (((k + 1:Nat):Int),exW e c w d (k + 1))
  have k4:=hk10 H2 hg2 kX (Nat.le_refl _);rw [← wl_succ] at l10;clear hlst kX gX hga hex hrng sg l2 hp2 hgl hN hx hR bs7 hk10 hsg hzs rds rdd hz8
  repeat' (first | simp only [↓Zadl,↓Zadf,↓Zadi,↓Zadk,↓Zaas,↓Zade,↓Zadg,↓Zafk,↓Zafj,↓Zaey,↓Zaau,↓Zaeo,↓Zadp,↓Zadu,↓Zadv,↓Zaeg,↓Zads,↓Zaec,↓Zaee,↓Zaex,↓Zafq,↓Zabt,↓Zaay,↓Zabb,↓Zabc,↓Zabn,↓Zaaz,↓Zabj,↓Zabl,↓Zabz,↓Zabm,↓Zaaw,↓bxPut,↓Zadb,↓Zacz,↓Zaaq,↓Zaao,↓Zacp,↓Zacn,↓Zafs,↓Zacj,↓Zacg,↓Zach,Zafm,Zaak,Zacm,Zadm,Zafi,List.map,List.nil_append,List.append_nil,↓reduceIte,Nat.reduceEqDiff,Nat.reduceLT,dec_T,true_and,Zaae,one1,Option.bind_some, *,lenI,ldI,ldIs,Q.fldP0,Q.fldP1] | (with_reducible first | refine Zadr (by assumption) (by decide +kernel) ?_ | refine Zadq (by decide +kernel) ?_ | refine Zaew (by decide +kernel) ?_ | refine Zadw ?_))
  exact ⟨N - (k + 1),by omega,k + 1,v9,rfl,by omega,l10,rfl,rfl⟩
end Go.Proofs.Ytmpbapffjapghaa
