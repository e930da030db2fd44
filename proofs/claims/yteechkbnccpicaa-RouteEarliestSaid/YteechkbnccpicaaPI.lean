/- The rows that grow, by the reference. -/
import Derived.Test.YteechkbnccpicaaPH
set_option linter.unusedVariables false
set_option linter.unusedSimpArgs false
set_option linter.unusedSectionVars false

namespace Go.Proofs.Yteechkbnccpicaa
open Go Go.AM
set_option maxRecDepth 10000

theorem ones_intJ {H:Heap} {x:Int} {cs:List Value} (h:(intE .i64).At H x cs):ones cs = true:=by
  rw [h.1]; rfl
theorem getD_rep (n i:Nat):(List.replicate n ([] : List Nat)).getD i [] = []:=by rw [List.getD_eq_getElem?_getD,List.getElem?_replicate]; split <;> rfl
theorem growX {X:Heap} (hg:Grp X) {x:List Nat} {v:Value} (h:jE.At X x [v]) (hx:x ≠ []) (hl:x.length ≤ 90000) (hm:∀ j ∈ x,j ≤ 1000) {i:Nat} (hi:i ≤ 1000) :
    ∃ va X1 vb X2,aAppend Try.prog X #[25,25] (.slice none 0 0) v = some (va,X1) ∧ aBuildSlice Try.prog X1 25 1 [(0,.int .i64 (i:Int))] = some (.slice (some ⟨X1.size,0,none⟩) 1 1,X1.newExact [.int .i64 (i:Int)] 3) ∧
      aAppend Try.prog (X1.newExact [.int .i64 (i:Int)] 3) #[25,25] va (.slice (some ⟨X1.size,0,none⟩) 1 1) = some (vb,X2) ∧ Keep X X2 ∧ CelL X.size X2 vb (x ++ [i]) ∧ ∃ b,vb = .slice b (x.length + 1) (x.length + 1):=by
  rcases jE_cases h with ⟨h1,_⟩ | ⟨_,a,c,r,o,rfl,hs⟩
  · exact absurd h1 hx
  have hp:0 < x.length:=List.length_pos_iff.2 hx
  obtain ⟨cells,n1,n2,n3⟩:=hs.first (by decide) (fun a' n' c' e => by
    obtain ⟨a1,c1,e1,ha1⟩:=hs.isv;injection e1 with g1 g2 g3;have g4:=ha1 (by rw [castL_len]; exact hp)
    rw [← g1] at g4;injection g4 with g5;injection e with e2 e3 e4;injection e2 with e2
    rw [← e2,g5]; exact .inl rfl)
  have n2:aFirst X (intE .i64).sz (castL x).length (.slice (some a) x.length c) = some cells:=n2;obtain ⟨va,X1,e1,l1,g1⟩:=(LstG.nil (E:=intE .i64) (e:=3) (L:=X.size) (H:=X)).put (P:=Try.prog) (ts:=#[25,25]) okI (stable_int _ _) hg (Nat.le_refl _) n3 n2 rfl (Chunks.ones (fun h => ones_intJ h) n1) n1 (by simp [castL_len]; omega)
  have k1:=g1.base X hg (Keep.refl _) (Nat.le_refl _);obtain ⟨vb,X2,e2,l2,g2⟩:=l1.push (P:=Try.prog) (ts:=#[25,25]) okI (stable_int _ _) (k1.grp hg) k1.size (x:=(i:Int)) (intI i hi) rfl (by simp [castL_len]; omega) 3
  rw [List.nil_append,castL_snoc] at l2;obtain ⟨b,hb⟩:=l2.isv;refine ⟨va,X1,vb,X2,e1,bsI X1 _,e2,g2.base X hg k1 (Nat.le_refl _),.inr ⟨by simp,.inr ⟨by simp; omega,l2⟩,by simp; omega,fun j hj => ?_⟩,b,?_⟩
  · rcases List.mem_append.1 hj with hj | hj
    · exact hm j hj
    · rw [List.mem_singleton.1 hj]; exact hi
  · rw [hb,castL_len,List.length_append]; rfl
def GJ (ls:List Lg) (ch:Int) (pw w:List (List Nat)) (i q:Nat):Prop:=(∀ i',i' < i → GrI ls ch pw i' ls.length (w.getD i' [])) ∧ GrI ls ch pw i q (w.getD i []) ∧ ∀ i',i < i' → w.getD i' [] = []
variable {ls:List Lg} {ch:Int} {pw w:List (List Nat)}
theorem GJ.zero {n:Nat}:GJ ls ch pw (List.replicate n []) 0 0:=⟨fun i h => absurd h (Nat.not_lt_zero i),by rw [getD_rep]; exact GrI.zero,fun i _ => getD_rep n i⟩
theorem GJ.row {i:Nat} (h:GJ ls ch pw w i ls.length):GJ ls ch pw w (i + 1) 0:=by
  refine ⟨fun i' hi => ?_,by rw [h.2.2 (i + 1) (by omega)]; exact GrI.zero,fun i' hi => h.2.2 i' (by omega)⟩
  rcases Nat.lt_or_ge i' i with h1 | h1
  · exact h.1 i' h1
  · rw [show i' = i by omega]; exact h.2.1
theorem GJ.skip {i q:Nat} (h:GJ ls ch pw w i q) (hn:GrI ls ch pw i (q + 1) (w.getD i [])):GJ ls ch pw w i (q + 1):=⟨h.1,hn,h.2.2⟩
theorem GJ.set {i q:Nat} {x:List Nat} (h:GJ ls ch pw w i q) (hi:i < w.length) (hn:GrI ls ch pw i (q + 1) x):GJ ls ch pw (w.set i x) i (q + 1):=
  ⟨fun i' hi' => by rw [setD_other (show i' ≠ i by omega)]; exact h.1 i' hi',by rw [setD_same hi]; exact hn,fun i' hi' => by rw [setD_other (show i' ≠ i by omega)]; exact h.2.2 i' hi'⟩

variable {S:AM.Sys} (hS:Only S 11)
include hS

set_option maxHeartbeats 8000000 in
theorem rGrown_runs (ls:List Lg) (a:Option Addr) (c r o:Nat) (ch:Int) (H:Heap) (pw:List (List Nat)) (pa:Option Addr) (pc pr po:Nat) (hg:Grp H) (hL:H.low ≤ H.size) (h60:ls.length ≤ 60) (hl:SlG H (.slice a ls.length c) ls r o) (hfit:∀ i,i < ls.length → Fit ch (ls.getD i default))
    (hn:SlE jE H (.slice pa pw.length pc) pw pr po) (hpw:pw.length = ls.length) {k:Nat} (hk:k ≤ 80000) (hlen:∀ q,q < ls.length → pw.getD q [] ≠ [] → (pw.getD q []).length = k + 1 ∧ ∀ j ∈ pw.getD q [],j ≤ 1000) :
    ∃ H' w,Runs Try.prog S (.fn 53) [.slice a ls.length c,.int .i64 ch,.slice pa ls.length pc] H (.slice (some ⟨H.size,0,none⟩) ls.length ls.length) H' ∧ RW H H' H.size w ls.length ∧ ∀ i,i < ls.length → GrI ls ch pw i ls.length (w.getD i []):=by
  suffices h:WCall Try.prog S (.fn 53) [.slice a ls.length c,.int .i64 ch,.slice pa ls.length pc] H (fun u H' => u = .slice (some ⟨H.size,0,none⟩) ls.length ls.length ∧ ∃ w,RW H H' H.size w ls.length ∧ ∀ i,i < ls.length → GrI ls ch pw i ls.length (w.getD i [])) by
    obtain ⟨_,H',hr,rfl,w,h1,h2⟩:=h; exact ⟨H',w,hr,h1,h2⟩
  have hob:=mkJ H h60;obtain ⟨H2,mk,rw0⟩:=hob;refine Zaba Try.func53 rfl (Nat.le_of_ble_eq_true rfl) (hS.no rfl _ _) ?_
  rw [Try.ntmps53,Try.results53];have hp1:pw.length ≤ ls.length:=by omega
  have hp2:ls.length ≤ pw.length:=by omega
  rw [hpw] at hn;clear hpw
  repeat' simp only [↓Zabx,↓Zabz,↓Zaaj,↓Zabu,↓Zaby,↓Zacw,↓Zacv,↓Zadb,↓Zaau,↓Zaam,↓bxOp_makeSlice,↓Zaas,↓bxPut,↓Zabs,↓Zabq,↓Zacz,↓Zada,↓Zadc,↓Zabg,↓Zabe,Zacx,Zabm,↓reduceIte,Nat.reduceEqDiff,Nat.reduceLT, *,argF,List.getD_cons_zero,lenG]
  refine sxL_of (fun m ρ X => ∃ (i:Nat) (w:List (List Nat)),m = ls.length - i ∧ i ≤ ls.length ∧ RW H X H.size w ls.length ∧ GJ ls ch pw w i 0 ∧ ρ 0 = .slice a ls.length c ∧ ρ 1 = .int .i64 ch ∧ ρ 2 = .slice pa ls.length pc ∧ ρ 7 = .slice (some ⟨H.size,0,none⟩) ls.length ls.length ∧ ρ 8 = .int .i64 (i:Int))
    ⟨0,_,rfl,Nat.zero_le _,rw0,GJ.zero,rfl,rfl,rfl,rfl,rfl⟩ ?_
  clear rw0 mk;rintro m ρ X ⟨i,w,rfl,hi,rwX,hgj,e0,e1,e2,e7,e8⟩
  by_cases hil:i < ls.length
  case neg =>
    have hil':¬ (i:Int) < (ls.length:Int):=by omega
    have hie:i = ls.length:=Nat.le_antisymm hi (Nat.not_lt.1 hil);rw [hie] at hgj;have hpost:∃ w,RW H X H.size w ls.length ∧ ∀ i,i < ls.length → GrI ls ch pw i ls.length (w.getD i []):=⟨w,rwX,fun i hi => hgj.1 i hi⟩
    clear hie hil hi hgj rwX hl hfit hn hlen
    repeat' simp only [↓Zaca,↓Zabx,↓Zabz,↓Zaai,↓Zaaj,↓Zabu,↓Zabw,↓Zacw,↓Zacv,↓Zadb,↓Zaau,↓Zaam,↓Zaan,↓Zaas,↓bxPut,↓Zabs,↓Zabr,↓Zaaf,↓Zabk,↓Zabj,↓Zadc,↓Zabg,↓Zabe,Zacx,Zaae,Zabi,Zact,↓reduceIte,Nat.reduceEqDiff,Nat.reduceLT,dec_F,and_self, *,lenG]
  have hil':(i:Int) < (ls.length:Int):=by omega
  have hwi:IntKind.i64.wrap ((i:Int) + 1) = ((i + 1:Nat):Int):=IntWalk.i64_in _ (by omega)
  repeat' simp only [↓Zaca,↓Zabx,↓Zabz,↓Zaai,↓Zaaj,↓Zabu,↓Zabw,↓Zacw,↓Zacv,↓Zadb,↓Zaau,↓Zaam,↓Zaan,↓Zaas,↓bxPut,↓Zabs,↓Zabr,↓Zaaf,↓Zabk,↓Zabj,↓Zadc,↓Zabg,↓Zabe,Zacx,Zaae,Zabi,Zacu,↓reduceIte,Nat.reduceEqDiff,Nat.reduceLT,dec_T, *,lenG]
  refine sxL_of (fun m ρ V => ∃ (q:Nat) (w:List (List Nat)),m = ls.length - q ∧ q ≤ ls.length ∧ RW H V H.size w ls.length ∧ GJ ls ch pw w i q ∧ ρ 0 = .slice a ls.length c ∧ ρ 1 = .int .i64 ch ∧ ρ 2 = .slice pa ls.length pc ∧ ρ 7 = .slice (some ⟨H.size,0,none⟩) ls.length ls.length ∧ ρ 8 = .int .i64 (i:Int) ∧ ρ 9 = .int .i64 (q:Int))
    ⟨0,w,rfl,Nat.zero_le _,rwX,hgj,e0,e1,e2,e7,e8,rfl⟩ ?_
  clear rwX hgj e0 e1 e2 e7 e8 ρ w;rintro m ρ V ⟨q,w,rfl,hq,rwV,hgj,e0,e1,e2,e7,e8,e9⟩
  by_cases hql:q < ls.length
  case neg =>
    have hql':¬ (q:Int) < (ls.length:Int):=by omega
    have hqe:q = ls.length:=Nat.le_antisymm hq (Nat.not_lt.1 hql);rw [hqe] at hgj;have hgj2:=hgj.row;clear hqe hql hq hgj hl hfit hn hlen
    repeat' (first | simp only [↓Zaca,↓Zabv,↓Zabx,↓Zabz,↓Zaai,↓Zabu,↓Zabw,↓Zacw,↓Zacv,↓Zaco,↓Zaak,↓Zacj,↓Zack,↓Zaci,↓Zace,↓Zacl,↓Zach,↓Zadb,↓Zaaz,↓Zaau,↓Zaam,↓Zaav,↓Zaao,↓Zaat,↓Zaaw,↓Zaan,↓Zaax,↓Zaar,↓Zaay,↓Zaas,↓bxOp_append,↓Zacy,↓bxPut,↓Zabs,↓Zabr,↓Zaag,↓Zaaf,↓Zabk,↓Zabj,↓Zadc,↓Zabg,↓Zabe,↓Zabf,↓dstAt,↓Zabh,Zacx,Zaae,Zabi,Zacb,Zact,List.nil_append,↓reduceIte,Nat.reduceEqDiff,Nat.reduceLT,dec_F,true_and, *,lenG] | (with_reducible first | refine Zacd (by assumption) (by decide +kernel) ?_ | refine Zacc (by decide +kernel) ?_ | refine Zacm (by decide +kernel) ?_ | refine Zacf ?_))
    exact ⟨ls.length - (i + 1),by omega,i + 1,w,rfl,by omega,rwV,hgj2,rfl⟩
  have hql':(q:Int) < (ls.length:Int):=by omega
  have hwq:IntKind.i64.wrap ((q:Int) + 1) = ((q + 1:Nat):Int):=IntWalk.i64_in _ (by omega)
  have hLV:=rwV.keep.low hL;have hnV:=hn.keep rwV.keep;have hpe:pw.length = ls.length:=by omega
  have hob:=row_at (w:=pw) (a:=pa) (c:=pc) (by rw [hpe]; exact hnV) (k:=q) (by omega)
  rw [hpe] at hob;obtain ⟨ixq,vq,rdq,atq⟩:=hob;have hob:=jE_nil atq;obtain ⟨eqq,_⟩:=hob;have hltq:pr < V.size:=hnV.lt (by omega)
  have onq:one1 [vq] = some vq:=by rcases jE_cases atq with ⟨_,rfl⟩ | ⟨_,_,_,_,_,rfl,_⟩ <;> rfl
  clear hnV hpe
  by_cases hx:pw.getD q [] = []
  · have hgj2:=hgj.skip (hgj.2.1.skip (fun h => absurd hx h))
    rw [hx] at eqq;replace eqq:binP Try.prog .eql 25 vq (.slice none 0 0) = some (.bool true):=eqq;clear hgj hl hfit hn hlen hx atq
    repeat' (first | simp only [↓Zaca,↓Zabv,↓Zabx,↓Zabz,↓Zaai,↓Zabu,↓Zabw,↓Zacw,↓Zacv,↓Zaco,↓Zaak,↓Zacj,↓Zack,↓Zaci,↓Zace,↓Zacl,↓Zach,↓Zacn,↓Zadb,↓Zaaz,↓Zaau,↓Zaam,↓Zaav,↓Zaao,↓Zaat,↓Zaaw,↓Zaan,↓Zaax,↓Zaar,↓Zaay,↓Zaas,↓bxOp_append,↓Zacy,↓bxPut,↓Zabs,↓Zabr,↓Zaag,↓Zaaf,↓Zabk,↓Zabj,↓Zadc,↓Zabg,↓Zabe,↓Zabf,↓dstAt,↓Zabh,Zacx,Zaae,Zabi,Zaad,Zacb,Zacq,Zacu,List.nil_append,↓reduceIte,Nat.reduceEqDiff,Nat.reduceLT,dec_T,true_and,Zaab,one1,Option.bind_some, *,lenG,ldIs] | (with_reducible first | refine Zacd (by assumption) (by decide +kernel) ?_ | refine Zacc (by decide +kernel) ?_ | refine Zacm (by decide +kernel) ?_ | refine Zacf ?_))
    exact ⟨ls.length - (q + 1),by omega,q + 1,w,rfl,by omega,rwV,hgj2,rfl⟩
  have hem:(pw.getD q []).isEmpty = false:=by cases h:pw.getD q [] with | nil => exact absurd h hx | cons _ _ => rfl
  rw [hem] at eqq;have hob:=SlG_at (hl.keep rwV.keep) hil;obtain ⟨q1,ixg1,rg1,_,_,_,_,_⟩:=hob;have hob:=SlG_at (hl.keep rwV.keep) hql;obtain ⟨q2,ixg2,rg2,_,_,_,_,_⟩:=hob;have hob:=drawn hLV (joins_runs hS (ls.getD q default) (ls.getD i default) ch (hfit q hql) (V.relow V.size));obtain ⟨V1,V2,k2,l2,f2,fd2⟩:=hob;have rw2:=rwV.more k2
  by_cases hjn:jn ls ch q i
  case neg =>
    have hjb:joinB ch (ls.getD q default) (ls.getD i default) = false:=Bool.eq_false_iff.2 hjn;rw [hjb] at f2;have hgj2:=hgj.skip (hgj.2.1.skip (fun _ => hjn))
    clear hgj hl hfit hn hlen hx atq hem hjn hjb rwV k2
    repeat' (first | simp only [↓Zaca,↓Zabv,↓Zabx,↓Zabz,↓Zaai,↓Zabu,↓Zabw,↓Zacw,↓Zacv,↓Zaco,↓Zaak,↓Zacj,↓Zack,↓Zaci,↓Zace,↓Zacl,↓Zach,↓Zacn,↓Zadb,↓Zaaz,↓Zaau,↓Zaam,↓Zaav,↓Zaao,↓Zaat,↓Zaaw,↓Zaan,↓Zaax,↓Zaar,↓Zaay,↓Zaas,↓bxOp_append,↓Zacy,↓bxPut,↓Zabs,↓Zabr,↓Zaag,↓Zaaf,↓Zabk,↓Zabj,↓Zadc,↓Zabg,↓Zabe,↓Zabf,↓dstAt,↓Zabh,Zacx,Zaae,Zabi,una_nf,Zaac,Zacb,Zacp,Zacu,List.map,List.nil_append,List.append_nil,↓reduceIte,Nat.reduceEqDiff,Nat.reduceLT,dec_T,true_and,Zaab,one1,Option.bind_some,Option.map_some, *,lenG,ldIs,ldG] | (with_reducible first | refine Zacd (by assumption) (by decide +kernel) ?_ | refine Zacc (by decide +kernel) ?_ | refine Zacm (by decide +kernel) ?_ | refine Zacf ?_))
    exact ⟨ls.length - (q + 1),by omega,q + 1,w,rfl,by omega,rw2,hgj2,rfl⟩
  have hjb:joinB ch (ls.getD q default) (ls.getD i default) = true:=hjn;rw [hjb] at f2;have rdq2:=k2.read hltq rdq;have hob:=hlen q hql hx;obtain ⟨hl1,hl2⟩:=hob;have gV2:=rw2.keep.grp hg;have hob:=growX gV2 (jE.keep k2 atq) hx (by omega) hl2 (i:=i) (by omega)
  obtain ⟨va,X1,vb,X2,ap1,bs1,ap2,kX2,cel2,bb,hvb⟩:=hob;have rw3:=rw2.more kX2;have hsz:H.size + 1 ≤ V2.size:=by obtain ⟨vals,_,ho,_⟩:=rw2.row; exact ho.lt
  have cel3:CelL (H.size + 1) X2 vb (pw.getD q [] ++ [i]):=by
    rcases cel2 with h | ⟨h1,h2,h3⟩
    · exact .inl h
    · exact .inr ⟨h1,h2.mono hsz,h3⟩
  have hob:=rw3.get hil;obtain ⟨v9,rd9,cl9⟩:=hob;have hob:=jE_nil cl9.at;obtain ⟨eq9,_⟩:=hob;have on9:one1 [v9] = some v9:=by rcases jE_cases cl9.at with ⟨_,rfl⟩ | ⟨_,_,_,_,_,rfl,_⟩ <;> rfl
  have hob:=rw3.set hg (Nat.le_refl _) hil cel3 hvb;obtain ⟨Y,st3,rwY⟩:=hob;have ixi:=ixJn (r:=H.size) hil;have hwl:i < w.length:=by rw [rw3.len]; exact hil
  by_cases hwn:w.getD i [] = []
  · have hgr:=hgj.2.1;rw [hwn] at hgr;have hgj2:=hgj.set hwl (hgr.first hx hjn);rw [hwn] at eq9;replace eq9:binP Try.prog .eql 25 v9 (.slice none 0 0) = some (.bool true):=eq9;clear hgj hl hfit hn hlen hx atq hem hjn hjb rwV k2 rw2 rw3 hl1 hl2 gV2 kX2 cel2 cel3 hsz cl9 hgr hwl hwn hvb hltq
    repeat' (first | simp only [↓Zaca,↓Zabv,↓Zabx,↓Zabz,↓Zaai,↓Zabu,↓Zabw,↓Zacw,↓Zacv,↓Zaco,↓Zaak,↓Zacj,↓Zack,↓Zaci,↓Zace,↓Zacl,↓Zach,↓Zacn,↓Zadb,↓Zaaz,↓Zaau,↓Zaam,↓Zaav,↓Zaao,↓Zaat,↓Zaaw,↓Zaan,↓Zaax,↓Zaar,↓Zaay,↓Zaas,↓bxOp_append,↓Zacy,↓bxPut,↓Zabs,↓Zabr,↓Zaag,↓Zaaf,↓Zabk,↓Zabj,↓Zadc,↓Zabg,↓Zabe,↓Zabf,↓dstAt,↓Zabh,Zacx,Zaae,Zabi,una_nt,Zaad,Zaac,Zacb,Zacq,Zacp,Zacu,Zact,List.map,List.nil_append,List.append_nil,↓reduceIte,Nat.reduceEqDiff,Nat.reduceLT,dec_T,true_and,Zaab,one1,Option.bind_some,Option.map_some, *,lenG,ldIs,ldG] | (with_reducible first | refine Zacd (by assumption) (by decide +kernel) ?_ | refine Zacc (by decide +kernel) ?_ | refine Zacm (by decide +kernel) ?_ | refine Zacf ?_))
    exact ⟨ls.length - (q + 1),by omega,q + 1,_,rfl,by omega,rwY,hgj2,rfl⟩
  have hem9:(w.getD i []).isEmpty = false:=by cases h:w.getD i [] with | nil => exact absurd h hwn | cons _ _ => rfl
  rw [hem9] at eq9;have hlw:(w.getD i []).length = k + 2:=by
    rcases hgj.2.1 with ⟨h1,_⟩ | ⟨p,h1,h2,h3,h4,_⟩
    · exact absurd h1 hwn
    · rw [h4,List.length_append,(hlen p (by omega) h2).1]; rfl
  have hll:(pw.getD q [] ++ [i]).length = (w.getD i []).length:=by rw [hlw,List.length_append,hl1]; rfl
  have hsb:∃ r8 o8,SlI .i64 X2 vb (castL (pw.getD q [] ++ [i])) r8 o8:=by
    rcases jE_cases cel3.at with ⟨h1,_⟩ | ⟨_,_,_,r8,o8,_,h2⟩
    · simp at h1
    · exact ⟨r8,o8,h2⟩
  have hs9:∃ r8 o8,SlI .i64 X2 v9 (castL (w.getD i [])) r8 o8:=by
    rcases jE_cases cl9.at with ⟨h1,_⟩ | ⟨_,_,_,r8,o8,_,h2⟩
    · exact absurd h1 hwn
    · exact ⟨r8,o8,h2⟩
  obtain ⟨r8,o8,sb⟩:=hsb;obtain ⟨r9,o9,s9⟩:=hs9;have hlX2:X2.low ≤ X2.size:=rw3.keep.low hL;have f9:=(rLess_runs hS _ _ hll vb v9 r8 o8 r9 o9 X2 hlX2 sb s9).bx;have hlx:=lexB_iff hll
  by_cases hle:lexle (w.getD i []) (pw.getD q [] ++ [i])
  · have hb:lexB (pw.getD q [] ++ [i]) (w.getD i []) = false:=Bool.eq_false_iff.2 (fun h => hlx.1 h hle)
    rw [hb] at f9;have hgj2:=hgj.skip (hgj.2.1.stay hwn hle);clear hgj hl hfit hn hlen hx atq hem hjn hjb rwV k2 rw2 hl1 hl2 gV2 kX2 cel2 cel3 hsz cl9 hwl hwn hvb hltq hlw hll sb s9 hlx hle hb hem9 rwY st3
    repeat' (first | simp only [↓Zaca,↓Zabv,↓Zabx,↓Zabz,↓Zaai,↓Zabu,↓Zabw,↓Zacw,↓Zacv,↓Zaco,↓Zaak,↓Zacj,↓Zack,↓Zaci,↓Zace,↓Zacl,↓Zach,↓Zacn,↓Zadb,↓Zaaz,↓Zaau,↓Zaam,↓Zaav,↓Zaao,↓Zaat,↓Zaaw,↓Zaan,↓Zaax,↓Zaar,↓Zaay,↓Zaas,↓bxOp_append,↓Zacy,↓bxPut,↓Zabs,↓Zabr,↓Zaag,↓Zaaf,↓Zabk,↓Zabj,↓Zadc,↓Zabg,↓Zabe,↓Zabf,↓dstAt,↓Zabh,Zacx,Zaae,Zabi,una_nt,Zaac,Zacb,Zacp,Zacu,Zact,List.map,List.nil_append,List.append_nil,↓reduceIte,Nat.reduceEqDiff,Nat.reduceLT,dec_T,true_and,Zaab,one1,Option.bind_some,Option.map_some, *,lenG,ldIs,ldG] | (with_reducible first | refine Zacd (by assumption) (by decide +kernel) ?_ | refine Zacc (by decide +kernel) ?_ | refine Zacm (by decide +kernel) ?_ | refine Zacf ?_))
    exact ⟨ls.length - (q + 1),by omega,q + 1,w,rfl,by omega,rw3,hgj2,rfl⟩
  · have hb:lexB (pw.getD q [] ++ [i]) (w.getD i []) = true:=hlx.2 hle;rw [hb] at f9;have hle2:lexle (pw.getD q [] ++ [i]) (w.getD i []):=(lexle.total _ _).resolve_right hle;have hgj2:=hgj.set hwl (hgj.2.1.less hx hjn hle2);clear hgj hl hfit hn hlen hx atq hem hjn hjb rwV k2 rw2 hl1 hl2 gV2 kX2 cel2 cel3 hsz cl9 hwl hwn hvb hltq hlw hll sb s9 hlx hle hb hem9 rw3 hle2
    repeat' (first | simp only [↓Zaca,↓Zabv,↓Zabx,↓Zabz,↓Zaai,↓Zabu,↓Zabw,↓Zacw,↓Zacv,↓Zaco,↓Zaak,↓Zacj,↓Zack,↓Zaci,↓Zace,↓Zacl,↓Zach,↓Zacn,↓Zadb,↓Zaaz,↓Zaau,↓Zaam,↓Zaav,↓Zaao,↓Zaat,↓Zaaw,↓Zaan,↓Zaax,↓Zaar,↓Zaay,↓Zaas,↓bxOp_append,↓Zacy,↓bxPut,↓Zabs,↓Zabr,↓Zaag,↓Zaaf,↓Zabk,↓Zabj,↓Zadc,↓Zabg,↓Zabe,↓Zabf,↓dstAt,↓Zabh,Zacx,Zaae,Zabi,una_nt,Zaac,Zacb,Zacp,Zacu,Zact,List.map,List.nil_append,List.append_nil,↓reduceIte,Nat.reduceEqDiff,Nat.reduceLT,dec_T,true_and,Zaab,one1,Option.bind_some,Option.map_some, *,lenG,ldIs,ldG] | (with_reducible first | refine Zacd (by assumption) (by decide +kernel) ?_ | refine Zacc (by decide +kernel) ?_ | refine Zacm (by decide +kernel) ?_ | refine Zacf ?_))
    exact ⟨ls.length - (q + 1),by omega,q + 1,_,rfl,by omega,rwY,hgj2,rfl⟩
end Go.Proofs.Yteechkbnccpicaa

namespace Go.Proofs.Yteechkbnccpicaa
open Go Go.AM
set_option maxRecDepth 10000

theorem okJ:ElemOk Try.prog #[56,56] 83 (sliceE jE).sz:=⟨⟨56,56,_,Try.t83,.slice none 0 0,rfl,rfl,Try.underlying56,Try.underlying56,rfl,by kernel_rfl,by kernel_rfl,by kernel_rfl,by kernel_rfl,of_decide_eq_true (by kernel_rfl)⟩,by show 0 < 1; decide⟩
theorem bsJ (H:Heap) (a:Option Addr) (n c:Nat):aBuildSlice Try.prog H 56 1 [(0,.slice a n c)] = some (.slice (some ⟨H.size,0,none⟩) 1 1,H.newExact [.slice a n c] 83):=by kernel_rfl
variable {ls:List Lg} {ch:Int} {B:Lg → Prop}
def AllLev (ls:List Lg) (ch:Int) (B:Lg → Prop) (all:List (List (List Nat))):Prop:=(∀ q,q < all.length → LevR ls ch B q (all.getD q [])) ∧ ∀ j s,Ch ls ch j s → B (ls.getD j default) → s.length < all.length
theorem Ch.take:∀ {s:List Nat} {j:Nat} (k:Nat),Ch ls ch j s → Ch ls ch j (s.take k)
  | [],_,_,h => by rw [List.take_nil]; exact h
  | i :: s,j,0,h => h.lt
  | i :: s,j,k + 1,h => ⟨h.1,h.2.1,Ch.take k h.2.2⟩
theorem LevR.none {k:Nat} {w:List (List Nat)} (h:LevR ls ch B k w) (ha:anyB w = false):∀ j s,Ch ls ch j s → B (ls.getD j default) → s.length < k:=fun j s h1 h2 => by
  rcases Nat.lt_or_ge s.length k with hl | hl
  · exact hl
  · have h3:=h1.take k;have hi:=h3.last_lt;have hw:(w.getD (lastN j (s.take k)) []).isEmpty = true:=by
      unfold anyB at ha;rw [List.any_eq_false] at ha;have:=ha _ (getD_mem (d:=[]) (show lastN j (s.take k) < w.length by rw [h.1]; exact hi))
      simpa using this
    rcases h.2 _ hi with ⟨_,g⟩ | ⟨j2,s2,g,_⟩
    · exact absurd (by rw [List.length_take]; omega) (g j _ h3 h2 rfl)
    · rw [g] at hw; cases hw
theorem LevR.some {k:Nat} {w:List (List Nat)} (h:LevR ls ch B k w) (hk:LOk ls ch) (ha:anyB w = true):k < 10000:=by
  unfold anyB at ha;rw [List.any_eq_true] at ha;obtain ⟨x,hx,hn⟩:=ha;obtain ⟨i,hi,rfl⟩:=List.getElem_of_mem hx;rcases h.2 i (by rw [← h.1]; exact hi) with ⟨g,_⟩ | ⟨j2,s2,g,g2,_,_,g3,_⟩
  · rw [List.getD_eq_getElem?_getD,List.getElem?_eq_getElem hi] at g;have g:w[i] = []:=g;rw [g] at hn; cases hn
  · have:=g2.len hk; omega
theorem LevR.cells {k:Nat} {w:List (List Nat)} (h:LevR ls ch B k w) (h60:ls.length ≤ 60):∀ q,q < ls.length → w.getD q [] ≠ [] → (w.getD q []).length = k + 1 ∧ ∀ j ∈ w.getD q [],j ≤ 1000:=fun q hq hx => by
  refine ⟨(h.2 q hq).len hx,fun j hj => ?_⟩
  rcases h.2 q hq with ⟨g,_⟩ | ⟨j2,s2,g,g2,_⟩
  · exact absurd g hx
  · rw [g] at hj; have:=g2.mem_lt j hj; omega
theorem AllLev.snoc {all:List (List (List Nat))} {w:List (List Nat)} (h:∀ q,q < all.length → LevR ls ch B q (all.getD q [])) (hw:LevR ls ch B all.length w):∀ q,q < (all ++ [w]).length → LevR ls ch B q ((all ++ [w]).getD q []):=fun q hq => by
  rcases Nat.lt_or_ge q all.length with h1 | h1
  · rw [List.getD_eq_getElem?_getD,List.getElem?_append_left h1,← List.getD_eq_getElem?_getD]; exact h q h1
  · have:q = all.length:=by simp at hq; omega
    subst this;rw [List.getD_eq_getElem?_getD,List.getElem?_append_right (Nat.le_refl _),Nat.sub_self];exact hw

variable {S:AM.Sys} (hS:Only S 11)
include hS

def PostJs (ls:List Lg) (ch:Int) (B:Lg → Prop) (A:Heap) (u:Value) (H':Heap):Prop:=
  ∃ all r o,Keep A H' ∧ AllLev ls ch B all ∧ SlE (sliceE jE) H' u all r o ∧ all.length ≤ 10000
set_option maxHeartbeats 8000000 in
theorem rJourn_runs (ls:List Lg) (a:Option Addr) (c r o:Nat) (ch:Int) (B:Lg → Prop) (H:Heap) (r0:Nat) (w0:List Bool) (hg:Grp H) (hL:H.low ≤ H.size) (h60:ls.length ≤ 60) (hlk:LOk ls ch) (hl:SlG H (.slice a ls.length c) ls r o) (hfit:∀ i,i < ls.length → Fit ch (ls.getD i default))
    (o0:Own H r0 4 (bvs w0)) (hw0:w0.length = ls.length) (hB:∀ j,j < ls.length → (w0.getD j false = true ↔ B (ls.getD j default))) :
    ∃ u H',Runs Try.prog S (.fn 32) [.slice a ls.length c,.int .i64 ch,.slice (some ⟨r0,0,none⟩) ls.length ls.length] H u H' ∧ PostJs ls ch B H u H':=by
  suffices h:WCall Try.prog S (.fn 32) [.slice a ls.length c,.int .i64 ch,.slice (some ⟨r0,0,none⟩) ls.length ls.length] H (fun u H' => PostJs ls ch B H u H') by
    obtain ⟨u,H',hr,h⟩:=h; exact ⟨u,H',hr,h⟩
  have hob:=mkJ H h60;obtain ⟨H2,mk,rw0⟩:=hob;refine Zaba Try.func32 rfl (Nat.le_of_ble_eq_true rfl) (hS.no rfl _ _) ?_
  rw [Try.ntmps32,Try.results32]
  repeat' simp only [↓Zabx,↓Zabz,↓Zaaj,↓Zabu,↓Zaby,↓Zacw,↓Zacv,↓Zadb,↓Zaau,↓Zaam,↓bxOp_makeSlice,↓Zaas,↓bxPut,↓Zabs,↓Zabq,↓Zacz,↓Zada,↓Zadc,↓Zabg,↓Zabe,Zacx,Zabm,↓reduceIte,Nat.reduceEqDiff,Nat.reduceLT, *,argF,List.getD_cons_zero,lenG]
  refine sxL_of (fun m ρ X => ∃ (i:Nat) (w:List (List Nat)),m = ls.length - i ∧ i ≤ ls.length ∧ RW H X H.size w ls.length ∧ (∀ q,q < i → w.getD q [] = if w0.getD q false = true then [q] else []) ∧ (∀ q,i ≤ q → w.getD q [] = []) ∧ ρ 0 = .slice a ls.length c ∧ ρ 1 = .int .i64 ch ∧ ρ 2 = .slice (some ⟨r0,0,none⟩) ls.length ls.length ∧ ρ 7 = .slice (some ⟨H.size,0,none⟩) ls.length ls.length ∧ ρ 8 = .int .i64 (i:Int))
    ⟨0,_,rfl,Nat.zero_le _,rw0,fun q hq => absurd hq (Nat.not_lt_zero q),fun q _ => getD_rep _ q,rfl,rfl,rfl,rfl,rfl⟩ ?_
  clear rw0 mk;rintro m ρ X ⟨i,w,rfl,hi,rwX,hd1,hd2,e0,e1,e2,e7,e8⟩
  by_cases hil:i < ls.length
  case pos =>
    have hil':(i:Int) < (ls.length:Int):=by omega
    have hwi:IntKind.i64.wrap ((i:Int) + 1) = ((i + 1:Nat):Int):=IntWalk.i64_in _ (by omega)
    have rdi:=readB (o0.keep rwX.keep) (k:=i) (by rw [hw0]; exact hil)
    have ixi:=ixBn (r:=r0) hil;have ixj:=ixJn (r:=H.size) hil;have hgb:∃ b1,b1 = w0.getD i false:=⟨_,rfl⟩;obtain ⟨b1,hb1⟩:=hgb;rw [← hb1] at rdi;cases b1 with
    | false =>
      have hd3:∀ q,q < i + 1 → w.getD q [] = if w0.getD q false = true then [q] else []:=fun q hq => by
        rcases Nat.lt_or_ge q i with h | h
        · exact hd1 q h
        · have:q = i:=by omega
          subst this;rw [← hb1,hd2 q (Nat.le_refl _)]; rfl
      have hd4:∀ q,i + 1 ≤ q → w.getD q [] = []:=fun q hq => hd2 q (by omega)
      clear hd1 hd2 hb1 hl hfit o0 hB hlk
      repeat' simp only [↓Zaca,↓Zabx,↓Zabz,↓Zaai,↓Zabu,↓Zabw,↓Zacw,↓Zacv,↓Zadb,↓Zaau,↓Zaam,↓Zaao,↓Zaat,↓Zaaw,↓Zaan,↓Zaar,↓Zaas,↓Zacy,↓bxPut,↓Zabs,↓Zabr,↓Zaag,↓Zaaf,↓Zabk,↓Zabj,↓Zadc,↓Zabg,↓Zabe,Zacx,Zaae,Zabi,Zacu,Zact,↓reduceIte,Nat.reduceEqDiff,Nat.reduceLT,dec_T,true_and,one1,Option.bind_some, *,lenG,ldBo]
      exact ⟨ls.length - (i + 1),by omega,i + 1,w,rfl,by omega,rwX,hd3,hd4,rfl⟩
    | true =>
      have bs1:=bsI X (i:Int);have kn:=Keep.newExact X [.int .i64 (i:Int)] 3;have on:=Own.new X [.int .i64 (i:Int)] 3;have rw1:=rwX.more kn;have hsz:H.size + 1 ≤ X.size:=by obtain ⟨vals,_,ho,_⟩:=rwX.row; exact ho.lt
      have cel:CelL (H.size + 1) (X.newExact [.int .i64 (i:Int)] 3) (.slice (some ⟨X.size,0,none⟩) 1 1) [i]:=.inr ⟨by simp,.inl ⟨i,X.size,rfl,by omega,rfl,hsz,on⟩,by simp,fun j hj => by rw [List.mem_singleton.1 hj]; omega⟩
      have hob:=rw1.set hg (Nat.le_refl _) hil cel rfl;obtain ⟨Y,st,rwY⟩:=hob;have hwl:=rwX.len;have hd3:∀ q,q < i + 1 → (w.set i [i]).getD q [] = if w0.getD q false = true then [q] else []:=fun q hq => by
        by_cases h:q = i
        · subst h;rw [setD_same (by omega),← hb1]; rfl
        · rw [setD_other h]; exact hd1 q (by omega)
      have hd4:∀ q,i + 1 ≤ q → (w.set i [i]).getD q [] = []:=fun q hq => by rw [setD_other (show q ≠ i by omega)]; exact hd2 q (by omega)
      clear hd1 hd2 hb1 hl hfit o0 hB hlk cel rwX rw1 kn on hsz hwl
      repeat' simp only [↓Zaca,↓Zabx,↓Zabz,↓Zaai,↓Zabu,↓Zabw,↓Zacw,↓Zacv,↓Zadb,↓Zaau,↓Zaam,↓Zaao,↓Zaat,↓Zaaw,↓Zaan,↓Zaar,↓Zaas,↓Zacy,↓bxPut,↓Zabs,↓Zabr,↓Zaag,↓Zaaf,↓Zabk,↓Zabj,↓Zadc,↓Zabg,↓Zabe,Zacx,Zaae,Zabi,Zacu,List.map,↓reduceIte,Nat.reduceEqDiff,Nat.reduceLT,dec_T,true_and,one1,Option.bind_some, *,lenG,ldBo]
      exact ⟨ls.length - (i + 1),by omega,i + 1,_,rfl,by omega,rwY,hd3,hd4,rfl⟩
  have hil':¬ (i:Int) < (ls.length:Int):=by omega
  have hie:i = ls.length:=Nat.le_antisymm hi (Nat.not_lt.1 hil);rw [hie] at hd1
  have hlev:LevR ls ch B 0 w:=⟨rwX.len,fun i hi => by
    rw [hd1 i hi]
    by_cases h:w0.getD i false = true
    · rw [if_pos h];refine .inr ⟨i,[],rfl,hi,(hB i hi).1 h,rfl,rfl,fun j' s' _ _ h3 h4 => ?_⟩
      have:s' = []:=List.length_eq_zero_iff.1 h4;subst this;have h3:j' = i:=h3;subst h3; exact lexle.refl _
    · rw [if_neg h];refine .inl ⟨rfl,fun j s _ h2 h3 h4 => h ((hB i hi).2 ?_)⟩
      have:s = []:=List.length_eq_zero_iff.1 h4;subst this;have h3:j = i:=h3
      subst h3; exact h2⟩
  have sl0:=rwX.sl (by omega)
  rw [rwX.len] at sl0;have kX:=rwX.keep;clear hd1 hd2 hie hil hi hB o0 hw0 rwX
  repeat' simp only [↓Zaca,↓Zabx,↓Zabz,↓Zaai,↓Zabu,↓Zabw,↓Zacw,↓Zacv,↓Zadb,↓Zaau,↓Zaam,↓Zaao,↓Zaat,↓Zaaw,↓Zaan,↓Zaar,↓Zaas,↓Zacy,↓bxPut,↓Zabs,↓Zabr,↓Zaag,↓Zaaf,↓Zabk,↓Zabj,↓Zadc,↓Zabg,↓Zabe,Zacx,Zaae,Zabi,Zact,↓reduceIte,Nat.reduceEqDiff,Nat.reduceLT,dec_F, *,lenG]
  refine sxL_of (fun m ρ Y => ∃ (all:List (List (List Nat))) (w:List (List Nat)) (nr:Nat) (v:Value),m = 10001 - all.length ∧ all.length ≤ 10000 ∧ Keep H Y ∧ (∀ q,q < all.length → LevR ls ch B q (all.getD q [])) ∧ LevR ls ch B all.length w ∧ SlE jE Y (.slice (some ⟨nr,0,none⟩) ls.length ls.length) w nr 0 ∧ LstG (sliceE jE) 83 H.size Y v all ∧ ρ 0 = .slice a ls.length c ∧ ρ 1 = .int .i64 ch ∧ ρ 7 = .slice (some ⟨nr,0,none⟩) ls.length ls.length ∧ ρ 9 = v)
    ⟨[],w,H.size,.slice none 0 0,rfl,Nat.zero_le _,kX,fun q hq => absurd hq (Nat.not_lt_zero q),hlev,sl0,LstG.nil,e0,e1,e7,rfl⟩ ?_
  clear hlev sl0 kX e0 e1 e2 e7 e8 ρ hil' w;rintro m ρ Y ⟨all,w,nr,v,rfl,hal,kY,hlevs,hlev,slw,hlst,e0,e1,e7,e9⟩;have fs:=(rSome_runs hS w _ _ _ Y slw).bx
  by_cases hany:anyB w = true
  case neg =>
    have hany:anyB w = false:=by cases h:anyB w with | true => exact absurd h hany | false => rfl
    rw [hany] at fs;have hob:=hlst.sl (by have:Go.maxLen = 9223372036854775807:=rfl; omega)
    obtain ⟨r9,s9,_⟩:=hob;have hp:PostJs ls ch B H v Y:=⟨all,r9,0,kY,⟨hlevs,hlev.none hany⟩,s9,hal⟩;clear hany hlst s9 hlevs hlev slw kY hal hl hfit hlk
    repeat' simp only [↓Zaca,↓Zabx,↓Zabz,↓Zaai,↓Zabu,↓Zabw,↓Zacw,↓Zacv,↓Zadb,↓Zaau,↓Zaam,↓Zaao,↓Zaay,↓bxOp_append,↓bxPut,↓Zabs,↓Zabr,↓Zaag,↓Zaaf,↓Zabk,↓Zabj,↓Zadc,↓Zabg,↓Zabf,Zacb,Zact,List.map,List.nil_append,List.append_nil,↓reduceIte,Nat.reduceEqDiff,Nat.reduceLT, *]
  rw [hany] at fs;have hkl:=hlev.some hlk hany;have gY:=kY.grp hg;have hlY:=kY.low hL;obtain ⟨av,rfl⟩:=hlst.isv;have hob:=hlst.push (P:=Try.prog) (ts:=#[56,56]) okJ (stable_slice stable_j) gY kY.size (x:=w) (es:=[.slice (some ⟨nr,0,none⟩) ls.length ls.length]) ⟨_,nr,0,rfl,slw⟩ rfl (by omega) 83
  obtain ⟨v2,Y2,ap2,l2,gr2⟩:=hob;have kY2:=gr2.base H hg kY (Nat.le_refl _);have gY2:=gr2.grp gY;have lY2:=gr2.low hlY;have bs2:=bsJ Y (some ⟨nr,0,none⟩) ls.length ls.length;have slw2:SlE jE Y2 (.slice (some ⟨nr,0,none⟩) ls.length ls.length) w nr 0:=slw.ge stable_j (fun _ => Nat.zero_le _) gr2.ge
  have hwl:=hlev.1;have hob:=rGrown_runs hS ls a c r o ch Y2 w (some ⟨nr,0,none⟩) ls.length nr 0 gY2 lY2 h60 (hl.keep kY2) hfit (by rw [hwl]; exact slw2) hwl (k:=all.length) (by omega) (hlev.cells h60)
  obtain ⟨Y3,w3,RG,rw3,hgr⟩:=hob;have f3:=RG.bx;have hlev3:LevR ls ch B (all ++ [w]).length w3:=⟨rw3.len,fun i hi => by rw [List.length_append]; exact (hgr i hi).done hlev hi⟩
  have hlevs3:=AllLev.snoc hlevs hlev;have sl3:=rw3.sl (by omega)
  rw [rw3.len] at sl3;have l3:=l2.keep rw3.keep;have kY3:=kY2.trans rw3.keep;have hal2:(all ++ [w]).length = all.length + 1:=by rw [List.length_append]; rfl
  have hgz:∃ al,al = all ++ [w]:=⟨_,rfl⟩;obtain ⟨al,hal3⟩:=hgz;rw [← hal3] at hal2 hlev3 hlevs3 l3;have hal4:al.length ≤ 10000:=by omega
  have hms:10001 - al.length < 10001 - all.length:=by omega
  clear RG rw3 hgr l2 hlevs hlev hwl slw slw2 hlst gr2 kY2 gY2 lY2 gY hlY kY hl hfit hlk hany hal3 hal2
  repeat' simp only [↓Zaca,↓Zabx,↓Zabz,↓Zaai,↓Zabu,↓Zabw,↓Zacw,↓Zacv,↓Zadb,↓Zaau,↓Zaam,↓Zaao,↓Zaay,↓bxOp_append,↓bxPut,↓Zabs,↓Zabr,↓Zaag,↓Zaaf,↓Zabk,↓Zabj,↓Zadc,↓Zabg,↓Zabf,Zacx,Zacb,Zacu,List.map,List.nil_append,List.append_nil,↓reduceIte,Nat.reduceEqDiff,Nat.reduceLT,true_and, *]
  exact ⟨_,hms,al,w3,Y2.size,v2,rfl,hal4,hlevs3,hlev3,sl3,l3,rfl,rfl⟩
end Go.Proofs.Yteechkbnccpicaa
