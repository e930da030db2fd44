/- The excesses, by the program. -/
import Derived.Test.YtmpbapffjapghaaG2
set_option linter.unusedVariables false
set_option linter.unusedSimpArgs false
set_option linter.unusedSectionVars false

namespace Go.Proofs.Ytmpbapffjapghaa
open Go Go.AM
set_option maxRecDepth 10000

theorem okI3:ElemOk Try.prog #[22,22] 3 (intE .i64).sz:=⟨⟨22,22,_,Try.t3,.int .i64 0,rfl,rfl,Try.underlying22,Try.underlying22,rfl,by kernel_rfl,by kernel_rfl,by kernel_rfl,by kernel_rfl,of_decide_eq_true (by kernel_rfl)⟩,by show 0 < 1; decide⟩
theorem bs1I (H:Heap) (z:Int):aBuildSlice Try.prog H 22 1 [(0,.int .i64 z)] = some (.slice (some ⟨H.size,0,none⟩) 1 1,H.newExact [.int .i64 z] 3):=by kernel_rfl
theorem atI3 {H:Heap} {z:Int} (h:R64 z):(intE .i64).At H z [.int .i64 z]:=⟨rfl,by
  have m1:IntKind.i64.min = -9223372036854775808:=by decide
  have m2:IntKind.i64.max = 9223372036854775807:=by decide
  rw [m1,m2]; exact h⟩
def ExL (e:Int) (c w:List Int) (d:Int) (L:List Int):Prop:=L.Pairwise (fun x y => y ≤ x) ∧ L.Perm ((wl e c w d (2 ^ c.length - 2)).map Prod.snd)
theorem ExL.eq {e:Int} {c w:List Int} {d:Int} {L M:List Int} (h:ExL e c w d L) (k:ExL e c w d M):L = M:=
  List.Perm.eq_of_pairwise (le:=fun x y => y ≤ x) (fun a b _ _ h1 h2 => by omega) h.1 k.1 (h.2.trans k.2.symm)
def PostX (e:Int) (c w:List Int) (d:Int) (H:Heap) (u:Value) (H':Heap):Prop:=
  ∃ (v:Value) (f:Int),u = .tuple ⟨[v,.int .i64 f]⟩ ∧ Keep H H' ∧ (¬ (Q.Prob e c ∧ Q.Shr e c w d) → f = 2 ∧ v = .slice none 0 0) ∧ (Q.Prob e c ∧ Q.Shr e c w d → f = 0 ∧ ∃ L r,SlI .i64 H' v L r 0 ∧ ExL e c w d L)
theorem sorted_snd {R:Array Pt} (h:Sort.SortedIn ltW 0 R.size R):(R.toList.map Prod.snd).Pairwise (fun x y => y ≤ x):=by
  rw [List.pairwise_iff_getElem];intro i j hi hj hij;have hi':i < R.size:=by simpa using hi
  have hj':j < R.size:=by simpa using hj
  have h1:=h i j (Nat.zero_le _) hij hj';unfold ltW at h1;have h2:=of_decide_eq_false h1;rw [getElem!_pos _ i hi',getElem!_pos _ j hj'] at h2;simp only [List.getElem_map,Array.getElem_toList];omega

variable {S:AM.Sys} (hS:Only S 5)
include hS

set_option maxHeartbeats 4000000 in
theorem Exc_runs (e:Int) (v v2:Value) (c w:List Int) (d:Int) (r o r2 o2:Nat) (H:Heap) (hg:Grp H) (hL:H.low ≤ H.size) (hc:SlI .i64 H v c r o) (hl:SlI .i64 H v2 w r2 o2) :
    ∃ u H',Runs Try.prog S (.fn 9) [.int .i64 e,v,.agg ⟨[v2,.int .i64 d]⟩] H u H' ∧ PostX e c w d H u H':=by
  suffices h:WCall Try.prog S (.fn 9) [.int .i64 e,v,.agg ⟨[v2,.int .i64 d]⟩] H (fun u H' => PostX e c w d H u H') by
    obtain ⟨u,H',hr,h⟩:=h; exact ⟨u,H',hr,h⟩
  obtain ⟨a,cap,rfl⟩:=hc.v0;obtain ⟨a2,cap2,rfl⟩:=hl.v0;obtain ⟨H1,e1,hK1,hz1,rd2,rd0,rd1⟩:=Q.boxP H (.slice a2 w.length cap2) (.int .i64 d);obtain ⟨H2,k2,RP⟩:=Q.isProblem_runs hS e _ c r o H1 (hc.keep hK1);have f2:=RP.bx;have k02:=hK1.trans k2;have rdx:=k2.read hz1 rd2;refine call_of Try.func9 rfl (Nat.le_of_ble_eq_true rfl) (hS.no rfl _ _) ?_
  rw [Try.ntmps9,Try.results9]
  by_cases hp:Q.Prob e c
  case neg =>
    rw [decide_eq_false hp] at f2;have hpo:PostX e c w d H (.tuple ⟨[.slice none 0 0,.int .i64 2]⟩) H2:=⟨_,2,rfl,k02,fun _ => ⟨rfl,rfl⟩,fun h => absurd h.1 hp⟩
    clear RP hc hl hp k02 k2 hK1 rd0 rd1 rd2 rdx
    repeat' simp only [↓Zadl,↓Zadi,↓Zadk,↓Zaas,↓Zaat,↓Zade,↓Zadj,↓Zafk,↓Zafj,↓Zafq,↓Zacb,↓Zabt,↓Zaay,↓Zabv,↓Zaba,↓Zabn,↓Zaby,↓Zabz,↓Zabm,↓bxPut,↓Zadb,↓Zadc,↓Zacy,↓Zafo,↓Zafp,↓Zafs,↓Zacj,↓Zacg,↓Zach,↓dstAt,↓Zacl,Zafm,una_nf,Zaag,Zadm,Zafb,Zafi,Zact,List.map,List.nil_append,List.append_nil,↓reduceIte,Nat.reduceEqDiff,Nat.reduceLT, *,argF,List.getD_cons_zero,List.getD_cons_succ,Q.cells_agg,Zact]
  rw [decide_eq_true hp] at f2;obtain ⟨H3,k3,RS⟩:=Q.areShares_runs hS e _ _ c w d r o r2 o2 H2 (k02.low hL) (hc.keep k02) (hl.keep k02) hp;have f3:=RS.bx;have k03:=k02.trans k3;have hzb:H.size < H2.size:=Nat.lt_of_lt_of_le hz1 k2.size;have rdx3:=k3.read hzb rdx
  by_cases hs:Q.Shr e c w d
  case neg =>
    rw [decide_eq_false hs] at f3;have hpo:PostX e c w d H (.tuple ⟨[.slice none 0 0,.int .i64 2]⟩) H3:=⟨_,2,rfl,k03,fun _ => ⟨rfl,rfl⟩,fun h => absurd h.2 hs⟩
    clear RP RS hc hl hp hs k02 k2 hK1 rd0 rd1 rd2 k3 k03 rdx3
    repeat' simp only [↓Zadl,↓Zadi,↓Zadk,↓Zaas,↓Zaat,↓Zade,↓Zadj,↓Zafk,↓Zafj,↓Zafq,↓Zacb,↓Zabt,↓Zaay,↓Zabv,↓Zaba,↓Zabn,↓Zaby,↓Zabz,↓Zabm,↓bxPut,↓Zadb,↓Zadc,↓Zacy,↓Zafo,↓Zafp,↓Zafs,↓Zacj,↓Zacg,↓Zach,↓dstAt,↓Zacl,Zafm,una_nt,una_nf,Zaaf,Zadm,Zaez,Zafi,Zact,List.map,List.nil_append,List.append_nil,↓reduceIte,Nat.reduceEqDiff,Nat.reduceLT,Option.map_some, *,argF,List.getD_cons_zero,List.getD_cons_succ,Q.cells_agg,Q.ldPa,Zact]
  rw [decide_eq_true hs] at f3;obtain ⟨u4,H4,R,RW4,pts,sor,prm⟩:=wishes_runs hS e _ _ c w d r o r2 o2 H3 (k03.grp hg) (k03.low hL) (hc.keep k03) (hl.keep k03) hp hs;have f4:=RW4.bx;have k4:=pts.2.2.2.1;have k04:=k03.trans k4;have hg4:=k04.grp hg;have hL4:=k04.low hL;obtain ⟨r5,s5,_⟩:=pts.sl;have hV:=pts.1;obtain ⟨a5,c5,rfl⟩:=s5.v0;have hsn:=sorted_snd sor;have hpm:=prm.map Prod.snd;have hRl:R.toList.length ≤ 60000:=by have:=pts.2.1; simpa using this
  clear RP RS RW4 hc hl k02 k2 hK1 rd0 rd1 rd2 k3 k03 pts sor prm k4
  repeat' simp only [↓Zadl,↓Zadi,↓Zadk,↓Zaas,↓Zaat,↓Zade,↓Zadj,↓Zafk,↓Zafj,↓Zafq,↓Zacb,↓Zabt,↓Zaay,↓Zabv,↓Zaba,↓Zabn,↓Zaby,↓Zabz,↓Zabm,↓bxPut,↓Zadb,↓Zadc,↓Zacy,↓Zafo,↓Zafp,↓Zafs,↓Zacj,↓Zacg,↓Zach,↓dstAt,↓Zacl,Zafm,una_nt,Zaaf,Zadm,Zaez,Zafg,Zact,List.map,List.nil_append,List.append_nil,↓reduceIte,Nat.reduceEqDiff,Nat.reduceLT,Option.map_some, *,argF,List.getD_cons_zero,List.getD_cons_succ,Q.cells_agg,Q.ldPa,lenS]
  clear f2 f3 f4;refine sxL_of (fun m ρ X => ∃ (k:Nat) (lv:Value),m = R.toList.length - k ∧ k ≤ R.toList.length ∧ Keep H4 X ∧ Grp X ∧ LstG (intE .i64) 3 H4.size X lv ((R.toList.take k).map Prod.snd) ∧ ρ 8 = lv ∧ ρ 25 = .slice a5 R.toList.length c5 ∧ ρ 26 = .int .i64 (R.toList.length:Int) ∧ ρ 27 = .int .i64 (k:Int))
    ⟨0,.slice none 0 0,rfl,Nat.zero_le _,Keep.refl _,hg4,LstG.nil,rfl,rfl,rfl,rfl⟩ ?_
  rintro m ρ X ⟨k,lv,rfl,hk,kX,gX,hlst,e8,e25,e26,e27⟩
  by_cases hkl:k < R.toList.length
  case neg =>
    have hlt:¬ (k:Int) < (R.toList.length:Int):=by omega
    rw [List.take_of_length_le (by omega)] at hlst
    have hob:=hlst.sl (by have:Go.maxLen = 9223372036854775807:=rfl; rw [List.length_map]; omega)
    obtain ⟨r8,s8,_⟩:=hob;have hpo:PostX e c w d H (.tuple ⟨[lv,.int .i64 0]⟩) X:=⟨_,0,rfl,k04.trans kX,fun h => absurd ⟨hp,hs⟩ h,fun _ => ⟨rfl,_,r8,s8,hsn,hpm⟩⟩
    clear hlst s8 hsn hpm k04 kX gX hk hkl hV s5 hp hs
    repeat' simp only [↓Zadl,↓Zadi,↓Zadk,↓Zaas,↓Zade,↓Zadg,↓Zafk,↓Zafj,↓Zafq,↓Zabt,↓Zaay,↓Zaav,↓Zabc,↓Zabn,↓Zabx,↓Zaaz,↓Zabj,↓Zabl,↓Zaaw,↓Zafn,↓bxPut,↓Zadb,↓Zacz,↓Zaaq,↓Zaao,↓Zacp,↓Zacn,↓Zafs,↓Zacj,↓Zacg,Zafm,Zaak,Zacm,Zafg,↓reduceIte,Nat.reduceEqDiff,Nat.reduceLT,dec_F, *]
  have hlt:(k:Int) < (R.toList.length:Int):=by omega
  have hwk:IntKind.i64.wrap ((k:Int) + 1) = ((k + 1:Nat):Int):=IntWalk.i64_in _ (by omega)
  have hob:=SlP_at (s5.keep kX) hkl;obtain ⟨q5,ix5,rd5,_,_,r51,r52⟩:=hob;have hgx:∃ x,R.toList.getD k default = x:=⟨_,rfl⟩;obtain ⟨x,hx⟩:=hgx;rw [hx] at rd5 r51 r52;have al5:=alS X;have hob:=newS X x;obtain ⟨X2,st5,k52,hz5,_,_,rdn⟩:=hob;have gX2:=k52.grp gX;have hob:=(hlst.keep k52).push (P:=Try.prog) (ts:=#[22,22]) okI3 (stable_int _ _) gX2 (kX.trans k52).size (x:=x.2) (es:=[.int .i64 x.2]) (atI3 r52) rfl (by rw [List.length_map,List.length_take]; omega) 3
  obtain ⟨v9,X3,ap9,l9,gr9⟩:=hob;have hbs:=bs1I X2 x.2;have k9:=gr9.base H4 hg4 (kX.trans k52) (Nat.le_refl _);have g9:=gr9.grp gX2;have htk:(R.toList.take k).map Prod.snd ++ [x.2] = (R.toList.take (k + 1)).map Prod.snd:=by
    rw [List.take_add_one,List.getElem?_eq_getElem hkl,Option.toList_some,List.map_append,← hx,List.getD_eq_getElem?_getD,List.getElem?_eq_getElem hkl]; rfl
  rw [htk] at l9;unfold pc at rd5 st5;clear hlst kX gX s5 hsn hpm hx htk k52 gX2 gr9 hz5 r51 r52 hV hp hs k04
  repeat' simp only [↓Zadl,↓Zadi,↓Zadk,↓Zaas,↓Zade,↓Zadg,↓Zafk,↓Zafj,↓Zafq,↓Zabt,↓Zaay,↓Zaav,↓Zabc,↓Zabn,↓Zabx,↓Zaaz,↓Zabj,↓Zabl,↓Zaaw,↓Zafn,↓bxPut,↓Zadb,↓Zacz,↓Zaaq,↓Zaao,↓Zacp,↓Zacn,↓Zafs,↓Zacj,↓Zacg,Zafm,Zaak,Zacm,Zafi,List.map,↓reduceIte,Nat.reduceEqDiff,Nat.reduceLT,dec_T,true_and,one1,Option.bind_some,Option.map_some, *,ldS,faS1,ldC,one1]
  exact ⟨R.toList.length - (k + 1),by omega,k + 1,v9,rfl,by omega,l9,rfl,rfl⟩
end Go.Proofs.Ytmpbapffjapghaa
