/- The excesses, by the reference. -/
import Derived.Test.YtmpbapffjapghaaG4
set_option linter.unusedVariables false
set_option linter.unusedSimpArgs false
set_option linter.unusedSectionVars false

namespace Go.Proofs.Ytmpbapffjapghaa
open Go Go.AM
set_option maxRecDepth 10000

def ivL (L:List Int):List Value:=L.map fun z => .int .i64 z
theorem ivL_len (L:List Int):(ivL L).length = L.length:=by simp [ivL]
theorem arrI_read {HB:Base} {X:Heap} {b r:Nat} {q:Bool} {L:List Int} (h:Arr HB X b r 3 1 q (ivL L)) {k:Nat} (hk:k < L.length):X.read r k 1 = some [.int .i64 (L.getD k 0)]:=by
  rw [h.read (o:=k) (n:=1) (by rw [ivL_len]; omega)]
  unfold ivL;rw [← List.map_drop,← List.map_take,List.drop_eq_getElem_cons hk,List.getD_eq_getElem?_getD,List.getElem?_eq_getElem hk];rfl
theorem arrI_store {HB:Base} {X:Heap} {b r:Nat} {q:Bool} {L:List Int} (h:Arr HB X b r 3 1 q (ivL L)) (z:Int) {o:Nat} (ho:o < L.length) :
    ∃ Y,aStore Try.prog X 3 (.pointer (some ⟨r,o,none⟩)) (.int .i64 z) = some Y ∧ Arr HB Y b r 3 1 q (ivL (L.set o z)):=by
  obtain ⟨Y,h1,h2,_⟩:=h.store (P:=Try.prog) (t:=3) (i:=Try.t3) (by kernel_rfl) (v:=.int .i64 z) (new:=[.int .i64 z]) rfl (by kernel_rfl) rfl (o:=o) (by rw [ivL_len]; show o + 1 ≤ L.length; omega)
  unfold ivL at h2;rw [splice_map ho] at h2;exact ⟨Y,h1,h2⟩
theorem chunksI {H:Heap} {L:List Int} {cells:List Value} (h:Chunks (intE .i64) H L cells):cells = ivL L:=by
  have h1:cells.length = L.length * 1:=h.1;apply List.ext_getElem (by rw [ivL_len]; omega)
  intro i h2 h3;have hi:i < L.length:=by omega
  have h4:((cells.drop (i * 1)).take 1) = [.int .i64 (L.getD i default)]:=(h.2 i hi).1;rw [Nat.mul_one,List.drop_eq_getElem_cons h2] at h4;have h5:[cells[i]] = [Value.int .i64 (L.getD i default)]:=h4;have h6:=List.cons.inj h5;have h7:(ivL L)[i] = Value.int .i64 L[i]:=by simp [ivL]
  rw [h6.1,h7,List.getD_eq_getElem?_getD,List.getElem?_eq_getElem hi]; rfl
theorem ivL_chunks {H:Heap} {L:List Int} (h:∀ z ∈ L,R64 z):Chunks (intE .i64) H L (ivL L):=⟨by rw [ivL_len]; show _ = L.length * 1; omega,fun i hi => by
  have e:((ivL L).drop (i * 1)).take 1 = [.int .i64 (L.getD i default)]:=by
    unfold ivL;rw [Nat.mul_one,← List.map_drop,← List.map_take,List.drop_eq_getElem_cons hi,List.getD_eq_getElem?_getD,List.getElem?_eq_getElem hi];rfl
  show (intE .i64).At H (L.getD i default) (((ivL L).drop (i * 1)).take 1);rw [e]
  exact atI3 (h _ (by rw [List.getD_eq_getElem?_getD,List.getElem?_eq_getElem hi]; exact List.getElem_mem hi))⟩
theorem lst_arr {A X:Heap} {v:Value} {L:List Int} (h:LstG (intE .i64) 3 A.size X v L) (hk:Keep A X) (hg:Grp A) (h0:0 < L.length):∃ b r,v = .slice (some ⟨r,0,none⟩) L.length L.length ∧ Arr (onH A) X b r 3 1 false (ivL L):=by
  rcases h with ⟨rfl,_⟩ | ⟨b,r,cells,hb,hl,ha,hf,hv,hp,hc⟩
  · exact absurd h0 (Nat.lt_irrefl 0)
  · obtain rfl:=chunksI hc;exact ⟨b,r,hv,hk,hb,ha.ge,hg,(fun x hx => by cases hx),.inr ⟨rfl,ha,hf⟩⟩
theorem arr_lst {A X:Heap} {b r:Nat} {L:List Int} (h:Arr (onH A) X b r 3 1 false (ivL L)) (hr:∀ z ∈ L,R64 z) (h0:0 < L.length):LstG (intE .i64) 3 A.size X (.slice (some ⟨r,0,none⟩) L.length L.length) L:=by
  rcases h.row with ⟨h1,_⟩ | ⟨_,h2,h3⟩
  · cases h1
  · exact .inr ⟨b,r,ivL L,h.le,Nat.lt_of_le_of_lt h2.ge h2.lt,h2,h3,rfl,h0,ivL_chunks hr⟩
structure Dwn (P:List Int) (n:Int) (k:Nat) (L:List Int):Prop where
  len:L.length = P.length + 1
  ex:∃ A B,A.length = k ∧ L = A ++ n :: B ∧ A ++ B = P ∧ ∀ b ∈ B,b < n
theorem Dwn.start (P:List Int) (n:Int):Dwn P n P.length (P ++ [n]):=⟨by simp,P,[],rfl,rfl,by simp,fun b hb => by cases hb⟩
theorem Dwn.at {P L:List Int} {n:Int} {k:Nat} (h:Dwn P n k L):L.getD k 0 = n:=by
  obtain ⟨A,B,h1,h2,_⟩:=h.ex;subst h1;rw [h2,List.getD_eq_getElem?_getD,List.getElem?_append_right (Nat.le_refl _),Nat.sub_self]; rfl
theorem Dwn.step {P L:List Int} {n:Int} {k:Nat} (h:Dwn P n (k + 1) L) (hlt:L.getD k 0 < n):Dwn P n k ((L.set (k + 1) (L.getD k 0)).set k n):=by
  refine ⟨by simp [h.len],?_⟩
  obtain ⟨A,B,h1,h2,h3,h4⟩:=h.ex;rcases List.eq_nil_or_concat A with rfl | ⟨A',a,rfl⟩
  · simp at h1
  · rw [List.concat_eq_append] at h1 h2 h3;have hk:A'.length = k:=by simp at h1; exact h1
    subst hk;have ha:L.getD A'.length 0 = a:=by
      rw [h2,List.append_assoc,List.getD_eq_getElem?_getD,List.getElem?_append_right (Nat.le_refl _),Nat.sub_self]; rfl
    rw [ha] at hlt ⊢;refine ⟨A',a :: B,rfl,?_,by rw [← h3]; simp,fun b hb => ?_⟩
    · rw [h2,List.append_assoc];have e1:(A' ++ ([a] ++ n :: B)).set (A'.length + 1) a = A' ++ ([a] ++ a :: B):=by
        rw [List.set_append_right _ _ (by omega),show A'.length + 1 - A'.length = 1 by omega]; rfl
      rw [e1,List.set_append_right _ _ (Nat.le_refl _),Nat.sub_self]; rfl
    · rcases List.mem_cons.1 hb with rfl | hb
      · exact hlt
      · exact h4 b hb
theorem Dwn.done {P L:List Int} {n:Int} {k:Nat} (h:Dwn P n k L) (hp:P.Pairwise fun x y => y ≤ x) (hn:0 < k → n ≤ L.getD (k - 1) 0):L.Pairwise (fun x y => y ≤ x) ∧ L.Perm (P ++ [n]):=by
  obtain ⟨A,B,h1,h2,h3,h4⟩:=h.ex;subst h3;obtain ⟨p1,p2,p3⟩:=List.pairwise_append.1 hp;have hA:∀ a ∈ A,n ≤ a:=fun a ha => by
    have h0:0 < A.length:=List.length_pos_of_mem ha;have h5:=hn (by omega)
    have h6:L.getD (k - 1) 0 = A.getD (A.length - 1) 0:=by
      rw [h2,← h1,List.getD_eq_getElem?_getD,List.getElem?_append_left (by omega),← List.getD_eq_getElem?_getD]
    rw [h6] at h5;obtain ⟨i,hi,rfl⟩:=List.getElem_of_mem ha;rw [List.getD_eq_getElem?_getD,List.getElem?_eq_getElem (show A.length - 1 < A.length by omega)] at h5
    have h5:n ≤ A[A.length - 1]:=h5;rcases Nat.lt_or_ge i (A.length - 1) with h7 | h7
    · have:=List.pairwise_iff_getElem.1 p1 i (A.length - 1) hi (by omega) h7; omega
    · have e:i = A.length - 1:=by omega
      subst e; exact h5
  constructor
  · rw [h2];refine List.pairwise_append.2 ⟨p1,List.pairwise_cons.2 ⟨fun b hb => Int.le_of_lt (h4 b hb),p2⟩,fun a ha b hb => ?_⟩
    rcases List.mem_cons.1 hb with rfl | hb
    · exact hA a ha
    · exact p3 a ha b hb
  · rw [h2,List.append_assoc];exact List.Perm.append_left A ((List.perm_append_comm (l₁:=B) (l₂:=[n])).symm.trans (.refl _))

variable {S:AM.Sys} (hS:Only S 5)
include hS

set_option maxHeartbeats 8000000 in
theorem rExc_runs (e:Int) (v v2:Value) (c w:List Int) (d:Int) (r o r2 o2:Nat) (H:Heap) (hg:Grp H) (hL:H.low ≤ H.size) (hc:SlI .i64 H v c r o) (hl:SlI .i64 H v2 w r2 o2) :
    ∃ u H',Runs Try.prog S (.fn 10) [.int .i64 e,v,.agg ⟨[v2,.int .i64 d]⟩] H u H' ∧ PostX e c w d H u H':=by
  suffices h:WCall Try.prog S (.fn 10) [.int .i64 e,v,.agg ⟨[v2,.int .i64 d]⟩] H (fun u H' => PostX e c w d H u H') by
    obtain ⟨u,H',hr,h⟩:=h; exact ⟨u,H',hr,h⟩
  obtain ⟨a,cap,rfl⟩:=hc.v0;obtain ⟨a2,cap2,rfl⟩:=hl.v0;obtain ⟨H1,e1,hK1,hz1,rd2,rd0,rd1⟩:=Q.boxP H (.slice a2 w.length cap2) (.int .i64 d);obtain ⟨gv2,H2,f,RG,k2,hb1,hb2⟩:=rGame_runs hS e _ c r o H1 (hK1.grp hg) (hK1.low hL) (hc.keep hK1);have f2:=RG.bx;have k02:=hK1.trans k2;have ex0:∀ x y:Value,aExtract (.tuple ⟨[x,y]⟩) 0 = some x:=fun x y => by kernel_rfl
  have ex1:∀ x y:Value,aExtract (.tuple ⟨[x,y]⟩) 1 = some y:=fun x y => by kernel_rfl
  refine call_of Try.func10 rfl (Nat.le_of_ble_eq_true rfl) (hS.no rfl _ _) ?_
  rw [Try.ntmps10,Try.results10]
  by_cases hp:Q.Prob e c
  case neg =>
    obtain ⟨rfl,rfl⟩:=hb1 hp;have hpo:PostX e c w d H (.tuple ⟨[.slice none 0 0,.int .i64 2]⟩) H2:=⟨_,2,rfl,k02,fun _ => ⟨rfl,rfl⟩,fun h => absurd h.1 hp⟩
    have d0:decide (¬ (2:Int) = 0) = true:=rfl;clear RG hc hl hp k02 k2 hK1 rd0 rd1 rd2 hb1 hb2
    repeat' simp only [↓Zadl,↓Zadi,↓Zadk,↓Zaas,↓Zaat,↓Zade,↓Zadj,↓Zafk,↓Zafj,↓Zafq,↓Zacb,↓Zabt,↓Zaay,↓Zabv,↓Zaba,↓Zabn,↓Zaaz,↓Zaby,↓Zabh,↓Zabz,↓bxPut,↓Zadb,↓Zadc,↓Zacy,↓Zafo,↓Zafp,↓Zafs,↓Zacj,↓Zacg,↓Zach,↓dstAt,↓Zacl,Zafm,Zaak,Zacm,Zaag,Zadm,Zafb,Zafi,Zact,List.map,List.nil_append,List.append_nil,↓reduceIte,Nat.reduceEqDiff,Nat.reduceLT, *,argF,List.getD_cons_zero,List.getD_cons_succ,Q.cells_agg,Zact]
  obtain ⟨rfl,rg,sg⟩:=hb2 hp;have d0:decide (¬ (0:Int) = 0) = false:=rfl;have hzb:H.size < H2.size:=Nat.lt_of_lt_of_le hz1 k2.size;have rdx:=k2.read hz1 rd2;obtain ⟨H3,k3,RS⟩:=Q.IsShares_runs hS e _ _ c w d r o r2 o2 H2 (k02.low hL) (hc.keep k02) (hl.keep k02) hp;have f3:=RS.bx;have k03:=k02.trans k3
  by_cases hs:Q.Shr e c w d
  case neg =>
    rw [decide_eq_false hs] at f3;have hpo:PostX e c w d H (.tuple ⟨[.slice none 0 0,.int .i64 2]⟩) H3:=⟨_,2,rfl,k03,fun _ => ⟨rfl,rfl⟩,fun h => absurd h.2 hs⟩
    clear RG RS hc hl hp hs k02 k2 hK1 rd0 rd1 rd2 k3 k03 hb1 hb2 sg
    repeat' simp only [↓Zadl,↓Zadi,↓Zadk,↓Zaas,↓Zaat,↓Zade,↓Zadj,↓Zafk,↓Zafj,↓Zafq,↓Zacb,↓Zabt,↓Zaay,↓Zabv,↓Zaba,↓Zabn,↓Zaaz,↓Zaby,↓Zabh,↓Zabz,↓bxPut,↓Zadb,↓Zadc,↓Zacy,↓Zafo,↓Zafp,↓Zafs,↓Zacj,↓Zacg,↓Zach,↓dstAt,↓Zacl,Zafm,Zaak,Zacm,una_nf,Zaaf,Zadm,Zaez,Zafi,Zact,List.map,List.nil_append,List.append_nil,↓reduceIte,Nat.reduceEqDiff,Nat.reduceLT,dec_F,not_true_eq_false,Option.map_some, *,argF,List.getD_cons_zero,List.getD_cons_succ,Q.cells_agg,Q.ldPa,Zact]
  rw [decide_eq_true hs] at f3;obtain ⟨ag,cg,rfl⟩:=sg.v0;have hgl:=gvs_len e c;have hg3:=k03.grp hg;have hL3:=k03.low hL;have l3:=hl.keep k03;have sg3:=sg.keep k3;have rds:=k3.read hzb (k2.read hz1 rd0);have rdd:=k3.read hzb (k2.read hz1 rd1);have hzb3:H.size < H3.size:=Nat.lt_of_lt_of_le hzb k3.size;have h7:=hp.2.1;have hwl:=hs.1;have hp2:=pow_small c.length (by omega)
  have hpw:2 ≤ 2 ^ c.length:=by
    have:=Nat.pow_le_pow_right (n:=2) (show 0 < 2 by decide) (show 1 ≤ c.length by omega)
    simpa using this
  have hex:=fun s => ex_rng hp hs s
  have hrng:=shr_rng hp hs;have hdv:∀ L:List Int,L.Pairwise (fun x y => y ≤ x) → L.Perm ((wl e c w d (2 ^ c.length - 2)).map Prod.snd) → ∀ (vv:Value) (X:Heap) (rr:Nat),Keep H3 X → SlI .i64 X vv L rr 0 → PostX e c w d H (.tuple ⟨[vv,.int .i64 0]⟩) X:=fun L h1 h2 vv X rr hk hsl => ⟨vv,0,rfl,k03.trans hk,fun h => absurd ⟨hp,hs⟩ h,fun _ => ⟨rfl,L,rr,hsl,h1,h2⟩⟩
  have hga:∀ s,s < 2 ^ c.length → (gvs e c).getD s 0 = gv e c s:=fun s h => gvs_at h
  obtain ⟨N,hN⟩:∃ N,2 ^ c.length = N:=⟨_,rfl⟩;rw [hN] at hgl hpw hp2 hdv hga;rw [hgl] at sg3 f2;have hwc1:w.length ≤ c.length:=by omega
  have hwc2:c.length ≤ w.length:=by omega
  clear RG RS hc hl k02 k2 hK1 rd0 rd1 rd2 k3 k03 hb1 hb2 sg hp hs hwl hN hzb
  repeat' simp only [↓Zadl,↓Zadi,↓Zadk,↓Zaas,↓Zaat,↓Zade,↓Zadj,↓Zafk,↓Zafj,↓Zafq,↓Zacb,↓Zabt,↓Zaay,↓Zabv,↓Zaba,↓Zabn,↓Zaaz,↓Zaby,↓Zabh,↓Zabz,↓bxPut,↓Zadb,↓Zadc,↓Zacy,↓Zafo,↓Zafp,↓Zafs,↓Zacj,↓Zacg,↓Zach,↓dstAt,↓Zacl,Zafm,Zaak,Zacm,una_nt,Zaaf,Zadm,Zaez,Zafg,Zact,List.map,List.nil_append,List.append_nil,↓reduceIte,Nat.reduceEqDiff,Nat.reduceLT,dec_F,not_true_eq_false,Option.map_some, *,argF,List.getD_cons_zero,List.getD_cons_succ,Q.cells_agg,Q.ldPa]
  clear f2 f3 e1 rdx;refine sxL_of (fun m ρ X => ∃ (k:Nat) (L:List Int) (lv:Value),m = N - k ∧ k + 2 ≤ N ∧ Keep H3 X ∧ Grp X ∧ LstG (intE .i64) 3 H3.size X lv L ∧ L.Pairwise (fun x y => y ≤ x) ∧ L.Perm ((wl e c w d k).map Prod.snd) ∧ ρ 1 = .slice a c.length cap ∧ ρ 5 = .pointer (some ⟨H.size,0,none⟩) ∧ ρ 8 = .slice ag N cg ∧ ρ 10 = lv ∧ ρ 11 = .int .i64 ((k + 1:Nat):Int))
    ⟨0,[],.slice none 0 0,rfl,by omega,Keep.refl _,hg3,LstG.nil,.nil,.refl _,rfl,rfl,rfl,rfl,rfl⟩ ?_
  rintro m ρ X ⟨k,P,lv,rfl,hk,kX,gX,hlst,hsor,hprm,e1,e5,e8,e10,e11⟩;have hLX:=kX.low hL3;have hPl:P.length ≤ k ∧ k ≤ P.length:=by rw [hprm.length_eq,List.length_map,wl_len]; exact ⟨Nat.le_refl _,Nat.le_refl _⟩
  obtain ⟨hP1,hP2⟩:=hPl;have hwN:IntKind.i64.wrap ((N:Int) - 1) = ((N - 1:Nat):Int):=by rw [IntWalk.i64_in _ (by omega)]; omega
  by_cases hkn:k + 2 < N
  case neg =>
    have hlt:¬ ((k + 1:Nat):Int) < ((N - 1:Nat):Int):=by omega
    have hke:k = N - 2:=by omega
    have hob:=hlst.sl (by have:Go.maxLen = 9223372036854775807:=rfl; omega)
    obtain ⟨r8,s8,_⟩:=hob;rw [hke] at hprm;have hpo:=hdv P hsor hprm lv X r8 kX s8;clear hlst s8 hsor hprm kX gX hdv hke hkn hk hga hex hrng sg3 l3 hp2 hpw hgl
    repeat' (first | simp only [↓Zadl,↓Zadf,↓Zadi,↓Zadk,↓Zaas,↓Zaat,↓Zade,↓Zadg,↓Zafk,↓Zafj,↓Zaey,↓Zaau,↓Zaeo,↓Zadp,↓Zaeg,↓Zads,↓Zaec,↓Zaee,↓Zafq,↓Zabt,↓Zaay,↓Zabc,↓Zabn,↓Zaaz,↓Zabj,↓Zabl,↓Zabm,↓Zaaw,↓bxPut,↓Zadb,↓Zacz,↓Zaao,↓Zacp,↓Zacn,↓Zafs,↓Zacj,↓Zacg,Zafm,Zaak,Zacm,Zafg,↓reduceIte,Nat.reduceEqDiff,Nat.reduceLT,dec_F, *,lenI] | (with_reducible first | refine Zadr (by assumption) (by decide +kernel) ?_ | refine Zadq (by decide +kernel) ?_ | refine Zaew (by decide +kernel) ?_ | refine Zadw ?_))
  have hlt:((k + 1:Nat):Int) < ((N - 1:Nat):Int):=by omega
  have hwk:IntKind.i64.wrap (((k + 1:Nat):Int) + 1) = ((k + 1 + 1:Nat):Int):=IntWalk.i64_in _ (by omega)
  have hob:=SlI_ix (H:=X) (w:=gvs e c) (a:=ag) (cap:=cg) (r:=rg) (o:=0) (by rw [hgl]; exact sg3.keep kX) (k:=k + 1) (by omega)
  rw [hgl] at hob;have rdg:=((sg3.keep kX).rdI (i:=k + 1) (by omega)).1
  rw [hga (k + 1) (by omega)] at rdg
  have rds':=kX.read hzb3 rds;have rdd':=kX.read hzb3 rdd;have hx:=hex (k + 1);have hm1:IntKind.i64.wrap (gv e c (k + 1) * d) = gv e c (k + 1) * d:=IntWalk.i64_in _ (by omega)
  obtain ⟨av,hav⟩:=hlst.isv;subst hav
  repeat' (first | simp only [↓Zadl,↓Zadf,↓Zadi,↓Zadk,↓Zaas,↓Zaat,↓Zade,↓Zadg,↓Zafk,↓Zafj,↓Zaey,↓Zaau,↓Zaeo,↓Zadp,↓Zaeg,↓Zads,↓Zaec,↓Zaee,↓Zaex,↓Zafq,↓Zabt,↓Zaay,↓Zabc,↓Zabn,↓Zaaz,↓Zabj,↓Zabl,↓Zabm,↓Zaaw,↓bxPut,↓Zadb,↓Zacz,↓Zaao,↓Zacp,↓Zacn,↓Zafs,↓Zacj,↓Zacg,Zafm,Zaak,Zacm,Zafi,↓reduceIte,Nat.reduceEqDiff,Nat.reduceLT,dec_T,Zaae,one1,Option.bind_some, *,lenI,ldI,Q.fldP1] | (with_reducible first | refine Zadr (by assumption) (by decide +kernel) ?_ | refine Zadq (by decide +kernel) ?_ | refine Zaew (by decide +kernel) ?_ | refine Zadw ?_))
  refine sxL_of (fun m ρ Y => ∃ (i:Nat),m = c.length - i ∧ i ≤ c.length ∧ Y = X ∧ ρ 1 = .slice a c.length cap ∧ ρ 5 = .pointer (some ⟨H.size,0,none⟩) ∧ ρ 8 = .slice ag N cg ∧ ρ 10 = .slice av P.length P.length ∧ ρ 11 = .int .i64 ((k + 1:Nat):Int) ∧ ρ 12 = .int .i64 (gv e c (k + 1) * d - inS (k + 1) i w) ∧ ρ 13 = .int .i64 (i:Int))
    ⟨0,rfl,Nat.zero_le _,rfl,e1,e5,e8,e10,e11,by rw [show inS (k + 1) 0 w = 0 from rfl,Int.sub_zero]; rfl,rfl⟩ ?_
  clear e1 e5 e8 e10 e11 ρ rdg hob hm1;rintro m ρ Y ⟨i,rfl,hi,rfl,e1,e5,e8,e10,e11,e12,e13⟩;have hir:=inS_rng (s:=k + 1) (k:=i) (n:=w.length) (B:=100000000000) hrng (by omega)
  by_cases hil:i < c.length
  case pos =>
    have hlti:(i:Int) < (c.length:Int):=by omega
    have hwi:IntKind.i64.wrap ((i:Int) + 1) = ((i + 1:Nat):Int):=IntWalk.i64_in _ (by omega)
    have hiw:i < w.length:=by omega
    have hbs:(((k + 1:Nat):Int).fdiv (2 ^ min i IntKind.i64.bits)).tmod 2 = if (k + 1).testBit i then 1 else 0:=bit_shr (k + 1) (by omega) i (by omega)
    have hix:=SlI_ix (l3.keep kX) hiw;have hrd:=((l3.keep kX).rdI hiw).1;have hos:=sumBit (k + 1) w.length w hiw;have hci:=hrng i hiw;have hwz:IntKind.i64.wrap (gv e c (k + 1) * d - inS (k + 1) i w - w.getD i 0) = gv e c (k + 1) * d - inS (k + 1) i w - w.getD i 0:=IntWalk.i64_in _ (by omega)
    have h0i:(0:Int) ≤ (i:Int):=Int.natCast_nonneg _;cases hb:(k + 1).testBit i with
    | false =>
      rw [hb] at hos hbs;simp only [Bool.false_eq_true,if_false,Int.add_zero] at hos;replace hbs:(((k + 1:Nat):Int).fdiv (2 ^ min i IntKind.i64.bits)).tmod 2 = 0:=hbs;have dd:decide ((0:Int) = 1) = false:=rfl;clear hlst kX gX l3 sg3 hdv hga hex hrng hsor hprm hir hb hci hx
      repeat' simp only [↓Zadl,↓Zadi,↓Zadk,↓Zaas,↓Zade,↓Zadg,↓Zafk,↓Zafj,↓Zafq,↓Zabt,↓Zaay,↓Zabn,↓Zaaz,↓Zabj,↓Zabl,↓Zabm,↓bxPut,↓Zadb,↓Zacz,↓Zaaq,↓Zaao,↓Zacp,↓Zacn,↓Zafs,↓Zacj,↓Zacg,Zafm,Zafl,Zaak,Zacm,Zafi,Zafg,↓reduceIte,Nat.reduceEqDiff,Nat.reduceLT,dec_T,true_and,ne_eq,Int.toNat_natCast, *,lenI]
      exact ⟨by decide,c.length - (i + 1),by omega,i + 1,rfl,by omega,by rw [hos],rfl⟩
    | true =>
      rw [hb] at hos hbs;simp only [if_true] at hos;replace hbs:(((k + 1:Nat):Int).fdiv (2 ^ min i IntKind.i64.bits)).tmod 2 = 1:=hbs;have dd:decide ((1:Int) = 1) = true:=rfl;have hos2:gv e c (k + 1) * d - inS (k + 1) i w - w.getD i 0 ≤ gv e c (k + 1) * d - inS (k + 1) (i + 1) w ∧ gv e c (k + 1) * d - inS (k + 1) (i + 1) w ≤ gv e c (k + 1) * d - inS (k + 1) i w - w.getD i 0:=by rw [hos]; omega
      obtain ⟨ho1,ho2⟩:=hos2;clear hlst kX gX l3 sg3 hdv hga hex hrng hsor hprm hir hb hci hos hx
      repeat' simp only [↓Zadl,↓Zadi,↓Zadk,↓Zaas,↓Zade,↓Zadg,↓Zafk,↓Zafj,↓Zafq,↓Zabt,↓Zaay,↓Zabn,↓Zaaz,↓Zabj,↓Zabl,↓Zabm,↓bxPut,↓Zadb,↓Zacz,↓Zaaq,↓Zaao,↓Zacp,↓Zacn,↓Zafs,↓Zacj,↓Zacg,Zafm,Zafl,Zaak,Zacm,Zafi,↓reduceIte,Nat.reduceEqDiff,Nat.reduceLT,dec_T,true_and,one1,Option.bind_some,ne_eq,Int.toNat_natCast, *,lenI,ldI,ldIs,Q.fldP0]
      exact ⟨by decide,c.length - (i + 1),by omega,i + 1,rfl,by omega,congrArg (Value.int .i64) (by omega),rfl⟩
  have hlti:¬ (i:Int) < (c.length:Int):=by omega
  have hie:i = w.length:=by omega
  have hgz:∃ n,gv e c (k + 1) * d - inS (k + 1) i w = n:=⟨_,rfl⟩;obtain ⟨n,hn⟩:=hgz;rw [hn] at e12;have hnx:n = exW e c w d (k + 1):=by rw [← hn,hie]; rfl
  have hrn:R64 n:=⟨by omega,by omega⟩
  have hob:=hlst.push (P:=Try.prog) (ts:=#[22,22]) okI3 (stable_int _ _) gX kX.size (x:=n) (es:=[.int .i64 n]) (atI3 hrn) rfl (by omega) 3
  obtain ⟨v9,X3,ap9,l9,gr9⟩:=hob;have hbs:=bs1I Y n;have k9:=gr9.base H3 hg3 kX (Nat.le_refl _);have hPL:(P ++ [n]).length = P.length + 1:=by simp
  have hob:=lst_arr l9 k9 hg3 (by omega)
  obtain ⟨b9,r9,rfl,arr9⟩:=hob;rw [hPL] at ap9;have hprm2:(P ++ [n]).Perm ((wl e c w d (k + 1)).map Prod.snd):=by
    rw [wl_succ,List.map_append,hnx];exact hprm.append_right _
  have hrP:∀ z ∈ P ++ [n],R64 z:=fun z hz => by
    have:=hprm2.mem_iff.1 hz;obtain ⟨p,hp,rfl⟩:=List.mem_map.1 this;obtain ⟨j,hj,rfl⟩:=List.mem_map.1 hp;have:=hex (j + 1);show R64 (exW e c w d (j + 1));exact ⟨by unfold exW; omega,by unfold exW; omega⟩
  have hwP:IntKind.i64.wrap (((P.length + 1:Nat):Int) - 1) = (P.length:Int):=by rw [IntWalk.i64_in _ (by omega)]; omega
  have hdw:=Dwn.start P n;clear hlst gX l9 gr9 hie hi hil hir hn hprm hx hrn kX l3 sg3 hga hnx rds' rdd'
  repeat' simp only [↓Zadl,↓Zadi,↓Zadk,↓Zaas,↓Zade,↓Zadg,↓Zafk,↓Zafj,↓Zafq,↓Zabt,↓Zaay,↓Zabn,↓Zaaz,↓Zabj,↓Zabl,↓Zabm,↓bxPut,↓Zadb,↓Zacz,↓Zaaq,↓Zaao,↓Zacp,↓Zacn,↓Zafs,↓Zacj,↓Zacg,Zafm,Zaak,Zacm,Zafg,List.map,↓reduceIte,Nat.reduceEqDiff,Nat.reduceLT,dec_F, *,lenI]
  clear ap9 hbs e12 e13;refine sxL_of (fun m ρ Z => ∃ (q:Nat) (L:List Int),m = q ∧ q ≤ P.length ∧ Dwn P n q L ∧ Arr (onH H3) Z b9 r9 3 1 false (ivL L) ∧ ρ 1 = .slice a c.length cap ∧ ρ 5 = .pointer (some ⟨H.size,0,none⟩) ∧ ρ 8 = .slice ag N cg ∧ ρ 10 = .slice (some ⟨r9,0,none⟩) (P.length + 1) (P.length + 1) ∧ ρ 11 = .int .i64 ((k + 1:Nat):Int) ∧ ρ 14 = .int .i64 (q:Int))
    ⟨P.length,_,rfl,Nat.le_refl _,hdw,arr9,e1,e5,e8,rfl,e11,rfl⟩ ?_
  clear hdw arr9 e1 e5 e8 e10 e11 ρ k9;rintro q ρ Z ⟨_,L,rfl,hq,hdw,arr,e1,e5,e8,e10,e11,e14⟩;have hLl:=hdw.len;have hLZ:=arr.keep.low hL3;have hfin:(0 < q → n ≤ L.getD (q - 1) 0) → LstG (intE .i64) 3 H3.size Z (.slice (some ⟨r9,0,none⟩) (P.length + 1) (P.length + 1)) L ∧ L.Pairwise (fun x y => y ≤ x) ∧ L.Perm ((wl e c w d (k + 1)).map Prod.snd) ∧ Keep H3 Z ∧ Grp Z:=fun h => by
    obtain ⟨h1,h2⟩:=hdw.done hsor h;have h3:=arr_lst arr (fun z hz => hrP z (h2.mem_iff.1 hz)) (by omega)
    rw [hLl] at h3;exact ⟨h3,h1,h2.trans hprm2,arr.keep,arr.keep.grp hg3⟩
  by_cases hq0:q = 0
  · have d1:decide (0 < (q:Int)) = false:=decide_eq_false (by omega)
    have hob:=hfin (fun h => by omega)
    obtain ⟨l2,so2,pm2,kZ,gZ⟩:=hob;clear hfin hdw arr hsor hprm2 hrP hq hq0 hdv hex hrng hLl
    repeat' (first | simp only [↓Zadl,↓Zadf,↓Zadi,↓Zadk,↓Zaas,↓Zade,↓Zadg,↓Zafk,↓Zafj,↓Zaey,↓Zaau,↓Zaeo,↓Zaer,↓Zaeg,↓Zads,↓Zaee,↓Zaex,↓Zafq,↓Zacb,↓Zabt,↓Zaay,↓Zabv,↓Zabn,↓Zabx,↓Zaaz,↓Zabl,↓Zafn,↓bxPut,↓Zadb,↓Zacz,↓Zaaq,↓Zaao,↓Zacp,↓Zacn,↓Zafs,↓Zacj,↓Zacg,↓dstAt,↓Zacl,Zafm,Zaak,Zacm,Zaaf,Zafc,Zafg,↓reduceIte,Nat.reduceEqDiff,Nat.reduceLT,true_and, *] | (with_reducible first | refine Zadr (by assumption) (by decide +kernel) ?_ | refine Zadq (by decide +kernel) ?_ | refine Zaew (by decide +kernel) ?_ | refine Zadw ?_))
    exact ⟨N - (k + 1),by omega,k + 1,L,_,rfl,by omega,l2,so2,pm2,rfl,rfl⟩
  have d1:decide (0 < (q:Int)) = true:=decide_eq_true (by omega)
  have hwq:IntKind.i64.wrap ((q:Int) - 1) = ((q - 1:Nat):Int):=by rw [IntWalk.i64_in _ (by omega)]; omega
  have rq:=arrI_read arr (k:=q) (by omega)
  rw [hdw.at] at rq;have rq1:=arrI_read arr (k:=q - 1) (by omega)
  have hgy:∃ y,L.getD (q - 1) 0 = y:=⟨_,rfl⟩;obtain ⟨y,hy⟩:=hgy;rw [hy] at rq1 hfin;have hix:∀ j:Nat,j < P.length + 1 → Zaad Try.prog 22 (.slice (some ⟨r9,0,none⟩) (P.length + 1) (P.length + 1)) (.int .i64 (j:Int)) = some (.pointer (some ⟨r9,j,none⟩)):=fun j hj => by
    rw [ixI,if_pos ⟨by omega,by omega⟩,Int.toNat_natCast,Nat.mul_one,Nat.zero_add]
  have ixq:=hix q (by omega)
  have ixq1:=hix (q - 1) (by omega)
  by_cases hny:y < n
  · have d2:decide (y < n) = true:=decide_eq_true hny;obtain ⟨q',rfl⟩:∃ q',q = q' + 1:=⟨q - 1,by omega⟩
    rw [show q' + 1 - 1 = q' by omega] at *
    have hdw2:=hdw.step (by rw [hy]; exact hny)
    rw [hy] at hdw2;have hob:=arrI_store arr y (o:=q' + 1) (by omega)
    obtain ⟨Z2,st2,arr2⟩:=hob;have hob:=arrI_store arr2 n (o:=q') (by rw [List.length_set]; omega)
    obtain ⟨Z3,st3,arr3⟩:=hob;clear hfin hdw arr arr2 hsor hprm2 hrP hq0 hdv hex hrng hLl hy hix
    repeat' (first | simp only [↓Zadl,↓Zadf,↓Zadi,↓Zadk,↓Zaas,↓Zade,↓Zadg,↓Zafk,↓Zafj,↓Zaey,↓Zaau,↓Zaeo,↓Zaer,↓Zaeg,↓Zads,↓Zaee,↓Zaex,↓Zafq,↓Zacb,↓Zabt,↓Zaay,↓Zabv,↓Zabn,↓Zabx,↓Zaaz,↓Zabl,↓Zafn,↓bxPut,↓Zadb,↓Zacz,↓Zaaq,↓Zaao,↓Zacp,↓Zacn,↓Zafs,↓Zacj,↓Zacg,↓dstAt,↓Zacl,Zafm,Zaak,Zacm,Zaag,Zafe,Zafi,↓reduceIte,Nat.reduceEqDiff,Nat.reduceLT,dec_T,true_and,Zaae,one1,Option.bind_some, *,ldI] | (with_reducible first | refine Zadr (by assumption) (by decide +kernel) ?_ | refine Zadq (by decide +kernel) ?_ | refine Zaew (by decide +kernel) ?_ | refine Zadw ?_))
    exact ⟨q',by omega,q',_,rfl,by omega,hdw2,arr3,rfl⟩
  · have d2:decide (y < n) = false:=decide_eq_false hny;have hob:=hfin (fun _ => by omega)
    obtain ⟨l2,so2,pm2,kZ,gZ⟩:=hob;clear hfin hdw arr hsor hprm2 hrP hq hq0 hdv hex hrng hLl hy hix
    repeat' (first | simp only [↓Zadl,↓Zadf,↓Zadi,↓Zadk,↓Zaas,↓Zade,↓Zadg,↓Zafk,↓Zafj,↓Zaey,↓Zaau,↓Zaeo,↓Zaer,↓Zaeg,↓Zads,↓Zaee,↓Zaex,↓Zafq,↓Zacb,↓Zabt,↓Zaay,↓Zabv,↓Zabn,↓Zabx,↓Zaaz,↓Zabl,↓Zafn,↓bxPut,↓Zadb,↓Zacz,↓Zaaq,↓Zaao,↓Zacp,↓Zacn,↓Zafs,↓Zacj,↓Zacg,↓dstAt,↓Zacl,Zafm,Zaak,Zacm,Zaag,Zafe,Zafg,↓reduceIte,Nat.reduceEqDiff,Nat.reduceLT,dec_F,true_and,Zaae,one1,Option.bind_some, *,ldI] | (with_reducible first | refine Zadr (by assumption) (by decide +kernel) ?_ | refine Zadq (by decide +kernel) ?_ | refine Zaew (by decide +kernel) ?_ | refine Zadw ?_))
    exact ⟨N - (k + 1),by omega,k + 1,L,_,rfl,by omega,l2,so2,pm2,rfl,rfl⟩
end Go.Proofs.Ytmpbapffjapghaa
