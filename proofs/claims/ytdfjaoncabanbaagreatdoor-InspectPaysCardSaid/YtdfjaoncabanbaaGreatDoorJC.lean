/- The best answer to a mixture of rows, by the program. -/
import Derived.Test.YtdfjaoncabanbaaGreatDoorJB
set_option linter.unusedVariables false
set_option linter.unusedSimpArgs false
set_option linter.unusedSectionVars false

namespace Go.Proofs.YtdfjaoncabanbaaGreatDoor
open Go Go.AM
set_option maxRecDepth 10000

def colS (g:List (List Int)) (x:List Int) (j:Nat):Int:=dotL (colT g j g.length) x x.length
def AnsOk (g:List (List Int)) (x:List Int) (dx:Int):Prop:=IsG g ∧ Mix x dx (g.length:Int) 1000000
instance (g:List (List Int)) (x:List Int) (dx:Int):Decidable (AnsOk g x dx):=by unfold AnsOk; infer_instance
def PostAns (g:List (List Int)) (x:List Int) (dx:Int) (H:Heap) (u:Value) (H':Heap):Prop:=
  ∃ i p q e,u = .tuple ⟨[.int .i64 i,.agg ⟨[.int .i64 p,.int .i64 q]⟩,.int .i64 e]⟩ ∧ Keep H H' ∧ (¬ AnsOk g x dx → i = 0 ∧ p = 0 ∧ q = 0 ∧ e = 2) ∧ (AnsOk g x dx → e = 0 ∧ ∃ b:Nat,i = (b:Int) ∧ Arg (colS g x) (g.getD 0 default).length b ∧ (p,q) = rat (colS g x b) dx)
theorem ans_rng {g:List (List Int)} {x:List Int} {dx:Int} (h:AnsOk g x dx):x.length = g.length ∧ g.length ≤ 5 ∧ 0 < g.length ∧ (1 ≤ dx ∧ dx ≤ 1000000) ∧ 0 < (g.getD 0 default).length ∧ (g.getD 0 default).length ≤ 5 ∧ (∀ i,i < g.length → (g.getD i []).length = (g.getD 0 default).length) ∧
    (∀ p j,p < g.length → j < (g.getD 0 default).length → -100000000 ≤ (g.getD p []).getD j 0 * x.getD p 0 ∧ (g.getD p []).getD j 0 * x.getD p 0 ≤ 100000000):=by
  obtain ⟨⟨g1,g2,g3⟩,⟨a1,a2,a3,_⟩⟩:=h;refine ⟨by omega,by omega,by omega,a2,by omega,by omega,fun i hi => (g3 _ (getD_mem (d:=[]) hi)).1,fun p j hp hj => ?_⟩
  have h1:=g3 _ (getD_mem (d:=[]) hp);have h2:=h1.2 _ (getD_mem (d:=0) (show j < (g.getD p []).length by have:=h1.1; omega))
  have h3:=a3 _ (getD_mem (d:=0) (show p < x.length by omega))
  have h4:(g.getD p []).getD j 0 * x.getD p 0 ≤ 100 * 1000000:=by
    rcases Int.le_total 0 ((g.getD p []).getD j 0) with h | h
    · exact Int.mul_le_mul h2.2 (by omega) h3.1 (by decide)
    · have:=Int.mul_nonpos_of_nonpos_of_nonneg h h3.1; omega
  have h5:-(g.getD p []).getD j 0 * x.getD p 0 ≤ 100 * 1000000:=by
    rcases Int.le_total 0 ((g.getD p []).getD j 0) with h | h
    · have:=Int.mul_nonpos_of_nonpos_of_nonneg (show -(g.getD p []).getD j 0 ≤ 0 by omega) h3.1; omega
    · exact Int.mul_le_mul (by omega) (by omega) h3.1 (by decide)
  rw [Int.neg_mul] at h5;omega
theorem colS_rng {g:List (List Int)} {x:List Int} {dx:Int} (h:AnsOk g x dx) {j:Nat} (hj:j < (g.getD 0 default).length):-1000000000 ≤ colS g x j ∧ colS g x j ≤ 1000000000:=by
  obtain ⟨a1,a2,a3,a4,a5,a6,a7,a8⟩:=ans_rng h;have q:∀ k,k ≤ x.length → -(100000000 * (k:Int)) ≤ dotL (colT g j g.length) x k ∧ dotL (colT g j g.length) x k ≤ 100000000 * (k:Int):=fun k => by
    induction k with
    | zero => intro _; simp [dotL]
    | succ k ih =>
      intro hk;have h1:=ih (by omega)
      have h2:=a8 k j (by omega) hj
      rw [dotL_succ,colT_at g j (show k < g.length by omega)]; omega
  have:=q x.length (Nat.le_refl _);unfold colS;omega

variable {S:AM.Sys} (hS:Only S 5)
include hS

set_option maxHeartbeats 8000000 in
theorem pAnswer_runs (g:List (List Int)) (gv v1:Value) (x:List Int) (dx:Int) (r o r1 o1:Nat) (H:Heap) (hgr:Grp H) (hL:H.low ≤ H.size) (hg:SlG H gv g r o) (hx:SlI .i64 H v1 x r1 o1) :
    ∃ u H',Runs Tryz.prog S (.fn 8) [gv,.agg ⟨[v1,.int .i64 dx]⟩] H u H' ∧ PostAns g x dx H u H':=by
  suffices h:WCall Tryz.prog S (.fn 8) [gv,.agg ⟨[v1,.int .i64 dx]⟩] H (fun u H' => PostAns g x dx H u H') by
    obtain ⟨u,H',hr,h⟩:=h; exact ⟨u,H',hr,h⟩
  have hgv:=hg.v0;obtain ⟨a,cap,rfl⟩:=hgv;obtain ⟨a1,cap1,rfl⟩:=hx.v0;obtain ⟨H1,e1,k1,z1,rx2,rx0,rx1⟩:=Q.boxP H (.slice a1 x.length cap1) (.int .i64 dx);obtain ⟨H2,e2,k2,z2,ow2,-,-,-⟩:=box2 H1 0 0 29;have k02:=k1.trans k2;have z12:H.size < H2.size:=Nat.lt_of_lt_of_le z1 k2.size;obtain ⟨H3,k3,R3⟩:=isGame_runs hS g _ r o H2 (hg.keep k02);have f3:=R3.bx;have k03:=k02.trans k3;have z13:H.size < H3.size:=Nat.lt_of_lt_of_le z12 k3.size;refine call_of Tryz.func8 rfl (Nat.le_of_ble_eq_true rfl) (hS.no rfl _ _) ?_
  rw [Tryz.ntmps8,Tryz.results8]
  by_cases h1:IsG g
  case neg =>
    rw [decide_eq_false h1] at f3;obtain ⟨H5,p5,k5,zz5,ow5,-⟩:=stH infR.1 k03 k1.size (ow2.keep k3) (v:=.agg ⟨[.int .i64 0,.int .i64 0]⟩) (new:=[.int .i64 0,.int .i64 0]) rfl infR.2 rfl rfl;obtain ⟨m5,-,-⟩:=own2 ow5;have hpo:PostAns g x dx H (.tuple ⟨[.int .i64 0,.agg ⟨[.int .i64 0,.int .i64 0]⟩,.int .i64 2]⟩) H5:=⟨0,0,0,2,rfl,k5,fun _ => ⟨rfl,rfl,rfl,rfl⟩,fun h => absurd h.1 h1⟩
    clear hg hx h1 ow2 ow5 k1 k2 k02 k3 k03 k5 hgr R3
    repeat' (first | simp only [↓Zabr,↓Zabm,↓Zabo,↓Zabq,↓Zaaf,↓Zabp,↓Zaci,↓Zach,↓Zacb,↓Zaah,↓Zabz,↓sxDL_assign,↓Zaby,↓Zabw,↓Zacn,↓Zaaw,↓Zaar,↓Zaaj,↓Zaas,↓Zaai,↓Zaal,↓bxOp_build,↓Zaaq,↓Zaat,↓bxOp_un,↓Zaan,↓Zaau,↓Zaap,↓Zack,↓bxPut,↓Zabj,↓Zabk,↓Zabh,↓Zacl,↓Zacm,↓Zaav,↓Zaco,↓Zaba,↓Zaay,↓Zaaz,↓dstAt,↓Zabb,Zacj,una_nf,aPick_true,Zabs,sxGuardB_ft,Zacg,packRes_two,List.map,List.nil_append,List.append_nil,↓reduceIte,Nat.reduceEqDiff,Nat.reduceLT,Option.map_some, *,argF,List.getD_cons_zero,List.getD_cons_succ,alR,bdR0,ldRt,cells2] | (with_reducible first | refine Zabu (by assumption) (by decide +kernel) ?_ | refine Zabt (by decide +kernel) ?_ | refine Zaca (by decide +kernel) ?_ | refine Zabv ?_))
  rw [decide_eq_true h1] at f3;have hgl:=h1.1;have hgl2:=h1.2.1;have rx2':=k3.read z12 (k2.read z1 rx2);obtain ⟨H4,k4,R4⟩:=isMix_runs hS _ x dx (g.length:Int) 1000000 (by decide) (by omega) r1 o1 H3 (hx.keep k03)
  have f4:=R4.bx;have k04:=k03.trans k4
  by_cases h2:Mix x dx (g.length:Int) 1000000
  case neg =>
    rw [decide_eq_false h2] at f4;obtain ⟨H5,p5,k5,zz5,ow5,-⟩:=stH infR.1 k04 k1.size ((ow2.keep k3).keep k4) (v:=.agg ⟨[.int .i64 0,.int .i64 0]⟩) (new:=[.int .i64 0,.int .i64 0]) rfl infR.2 rfl rfl;obtain ⟨m5,-,-⟩:=own2 ow5;have hpo:PostAns g x dx H (.tuple ⟨[.int .i64 0,.agg ⟨[.int .i64 0,.int .i64 0]⟩,.int .i64 2]⟩) H5:=⟨0,0,0,2,rfl,k5,fun _ => ⟨rfl,rfl,rfl,rfl⟩,fun h => absurd h.2 h2⟩
    clear hg hx h1 h2 ow2 ow5 k1 k2 k02 k3 k03 k4 k04 k5 hgr R3 R4 hgl hgl2
    repeat' (first | simp only [↓Zabr,↓Zabm,↓Zabo,↓Zabq,↓Zaaf,↓Zabp,↓Zaci,↓Zach,↓Zacb,↓Zaah,↓Zabz,↓sxDL_assign,↓Zaby,↓Zabw,↓Zacn,↓Zaaw,↓Zaar,↓Zaaj,↓Zaas,↓Zaai,↓Zaal,↓bxOp_build,↓Zaaq,↓Zaat,↓bxOp_un,↓Zaan,↓Zaau,↓Zaap,↓Zack,↓bxPut,↓Zabj,↓Zabk,↓Zabh,↓Zacl,↓Zacm,↓Zaav,↓Zaco,↓Zaba,↓Zaay,↓Zaaz,↓dstAt,↓Zabb,Zacj,una_nt,una_nf,Zaab,Zabs,Zacc,Zacg,packRes_two,List.map,List.nil_append,List.append_nil,↓reduceIte,Nat.reduceEqDiff,Nat.reduceLT,Option.map_some, *,argF,List.getD_cons_zero,List.getD_cons_succ,alR,bdR0,ldRt,cells2,Q.ldP,lenG] | (with_reducible first | refine Zabu (by assumption) (by decide +kernel) ?_ | refine Zabt (by decide +kernel) ?_ | refine Zaca (by decide +kernel) ?_ | refine Zabv ?_))
  rw [decide_eq_true h2] at f4;have hok:AnsOk g x dx:=⟨h1,h2⟩;obtain ⟨b1,b2,b3,b4,b5,b6,b7,b8⟩:=ans_rng hok;have hcr:=fun j (hj:j < (g.getD 0 default).length) => colS_rng hok hj
  have g4:=k04.grp hgr;have lo4:=k04.low hL;have hob:=turned_runs hS g _ r o (g.getD 0 default).length (H4.relow H4.size) ((Keep.relowS H4).grp g4) (Nat.le_refl _) ((hg.keep k04).keep (Keep.relowS H4)) b3 (by omega) (by omega) b7
  obtain ⟨u5,H5a,w,R5,k5a,sw5a,hwl,hwv⟩:=hob;have hd5:∀ (all:List Oper) (n:Nat) (k:Heap → Prop),sxD all n H4 H5a k = k (H5a.relow (Nat.min H4.low H5a.low)):=fun all n k => sxD_keep k5a k
  have k5:=Keep.draw k5a;have sw5:=sw5a.ge (stable_slice (stable_int .i64 0)) (fun _ => Nat.zero_le _) ((Ge.refl 0 H5a).relow (l:=Nat.min H4.low H5a.low))
  generalize H5a.relow (Nat.min H4.low H5a.low) = H5 at *;have k05:=k04.trans k5;have g5:=k05.grp hgr;have lo5:=k05.low hL;obtain ⟨a5,c5,rfl⟩:=sw5.v0;have hwg:∀ k,k < w.length → w.getD k default = colT g k g.length:=fun k hk => hwv k (by omega)
  have z15:H.size < H5.size:=Nat.lt_of_lt_of_le z13 (k4.trans k5).size;have rx0':=k5.read (Nat.lt_of_lt_of_le z13 k4.size) (k4.read z13 (k3.read z12 (k2.read z1 rx0)));have rx1':=k5.read (Nat.lt_of_lt_of_le z13 k4.size) (k4.read z13 (k3.read z12 (k2.read z1 rx1)));have hob:=pays_runs hS w _ _ _ _ x r1 o1 (H5.relow H5.size) ((Keep.relowS H5).grp g5) (Nat.le_refl _) (sw5.keep (Keep.relowS H5)) ((hx.keep k05).keep (Keep.relowS H5)) (by omega) (by omega) (by omega)
    (fun k hk => by rw [show w.getD k [] = colT g k g.length from hwg k hk,colT_len]; omega) (fun k p hk hp => by
      rw [show w.getD k [] = colT g k g.length from hwg k hk,colT_at g k (by omega)]
      have:=b8 p k (by omega) (by omega); omega)
  obtain ⟨u6,H6a,L,R6,k6a,sl6a,hLl,hLv⟩:=hob;have hd6:∀ (all:List Oper) (n:Nat) (k:Heap → Prop),sxD all n H5 H6a k = k (H6a.relow (Nat.min H5.low H6a.low)):=fun all n k => sxD_keep k6a k
  have k6:=Keep.draw k6a;have sl6:=sl6a.ge (stable_int .i64 0) (fun _ => Nat.zero_le _) ((Ge.refl 0 H6a).relow (l:=Nat.min H5.low H6a.low))
  generalize H6a.relow (Nat.min H5.low H6a.low) = H6 at *;have k06:=k05.trans k6;have lo6:=k06.low hL;obtain ⟨a6,c6,rfl⟩:=sl6.v0;have rx1'':=k6.read z15 rx1';have hLs:∀ k,k < (g.getD 0 default).length → L.getD k 0 = colS g x k:=fun k hk => by
    rw [hLv k (by omega),show w.getD k [] = colT g k g.length from hwg k (by omega)]; rfl
  obtain ⟨b,hb,R7⟩:=minI_runs hS _ L _ _ H6 lo6 sl6 (by omega) (by omega)
  have hbl:b < (g.getD 0 default).length:=by have:=hb.1; omega
  have hbA:Arg (colS g x) (g.getD 0 default).length b:=by
    refine ⟨hbl,fun k hk => ?_,fun k hk => ?_⟩
    · have:=hb.2.1 k (by omega); rw [← hLs b hbl,← hLs k hk]; exact this
    · have:=hb.2.2 k hk; rw [← hLs b hbl,← hLs k (by omega)]; exact this
  have hob:=drawn lo6 ⟨_,Keep.refl _,idxI_runs hS _ L _ _ (H6.relow H6.size) (Nat.le_refl _) (sl6.keep (Keep.relowS H6)) (by omega) b hb⟩
  obtain ⟨H8a,H8,k8,lo8,f8,fd8⟩:=hob;have hLb:=hLs b hbl;rw [hLb] at R7 f8;have f7:=R7.bx;have f5:=R5.bx;have f6:=R6.bx;have rx1''':=k8.read (Nat.lt_of_lt_of_le z15 k6.size) rx1'';have hcb:=hcr b hbl;have hob:=drawn lo8 (pratio_runs hS (colS g x b) dx (H8.relow H8.size) (Nat.le_refl _) (by omega) (by omega) (by omega))
  obtain ⟨H9a,H9,k9,lo9,f9,fd9⟩:=hob;have k09:=(k06.trans k8).trans k9;have ow9:=(((((ow2.keep k3).keep k4).keep k5).keep k6).keep k8).keep k9;obtain ⟨rt,hrt⟩:∃ rt,rat (colS g x b) dx = rt:=⟨_,rfl⟩;rw [hrt] at f9;obtain ⟨Hc,Hd,pc,qc,kd,zd,ld,owc,owd,-⟩:=stG infR.1 k09 k1.size lo9 ow9 (v:=.agg ⟨[.int .i64 rt.1,.int .i64 rt.2]⟩) (new:=[.int .i64 rt.1,.int .i64 rt.2]) rfl infR.2 rfl rfl;obtain ⟨m9,-,-⟩:=own2 owd;have hpo:PostAns g x dx H (.tuple ⟨[.int .i64 (b:Int),.agg ⟨[.int .i64 rt.1,.int .i64 rt.2]⟩,.int .i64 0]⟩) Hd:=⟨b,rt.1,rt.2,0,rfl,kd,fun h => absurd hok h,fun _ => ⟨rfl,b,rfl,hbA,hrt.symm⟩⟩
  clear hg hx k1 k2 k02 k3 k03 k4 k04 k5 k05 k6 k06 k8 k9 k09 h1 h2 hgl hgl2 R3 R4 R5 R6 R7 ow2 ow9 owc owd kd hrt hok hbA hb hbl hLs hLv hLl hwv hwl hwg b1 b2 b3 b4 b5 b6 b7 b8 hcr hcb sw5 sw5a sl6 sl6a k5a k6a hLb g4 g5 hgr
  repeat' (first | simp only [↓Zabr,↓Zabm,↓Zabo,↓Zabq,↓Zaaf,↓Zabp,↓Zaci,↓Zach,↓Zacb,↓Zaah,↓Zabz,↓sxDL_assign,↓Zaby,↓Zabw,↓sxD_same,↓Zacn,↓Zaaw,↓Zaar,↓Zaaj,↓Zaas,↓Zaai,↓Zaal,↓bxOp_build,↓Zaaq,↓Zaat,↓bxOp_un,↓Zaan,↓Zaau,↓Zaap,↓Zack,↓bxPut,↓Zabj,↓Zabk,↓Zabh,↓Zacl,↓Zacm,↓Zaav,↓Zaco,↓Zaba,↓Zaay,↓Zaaz,↓dstAt,↓Zabb,Zacj,una_nt,Zaab,Zabs,Zacc,Zacf,packRes_two,List.map,List.nil_append,List.append_nil,↓reduceIte,Nat.reduceEqDiff,Nat.reduceLT,read_relow,low_relow,relow_relow,Zaaa,one1,Option.bind_some,Option.map_some, *,argF,List.getD_cons_zero,List.getD_cons_succ,alR,ldRt,cells2,Q.ldP,Q.fldP0,Q.fldP1,lenG,ldI,ldIs,Nat.zero_add] | (with_reducible first | refine Zabu (by assumption) (by decide +kernel) ?_ | refine Zabt (by decide +kernel) ?_ | refine Zaca (by decide +kernel) ?_ | refine Zabv ?_))
  rw [← zd,show Hd.low.min Hd.size = Hd.low from Nat.min_eq_left ld]
  exact hpo
end Go.Proofs.YtdfjaoncabanbaaGreatDoor
