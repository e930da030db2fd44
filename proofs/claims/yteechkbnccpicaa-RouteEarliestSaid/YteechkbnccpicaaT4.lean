/- The best of some points. -/
import Derived.Test.YteechkbnccpicaaSEP
set_option linter.unusedVariables false
set_option linter.unusedSimpArgs false
set_option linter.unusedSectionVars false

namespace Go.Proofs.Yteechkbnccpicaa
open Go Go.AM
set_option maxRecDepth 10000

theorem bs2 (H:Heap) (x y:Int):aBuildSlice Try.prog H 25 2 [(0,.int .i64 x),(1,.int .i64 y)] = some (.slice (some ⟨H.size,0,none⟩) 2 2,H.newExact [.int .i64 x,.int .i64 y] 3):=by kernel_rfl
theorem bs1P (H:Heap) (x:Pt):aBuildSlice Try.prog H 35 1 [(0,.agg ⟨[.int .i64 x.1,.int .i64 x.2]⟩)] = some (.slice (some ⟨H.size,0,none⟩) 1 1,H.newExact (pc x) 40):=by kernel_rfl
theorem two_sl (H:Heap) (x y:Int) (hx:R64 x) (hy:R64 y):SlI .i64 (H.newExact [.int .i64 x,.int .i64 y] 3) (.slice (some ⟨H.size,0,none⟩) [x,y].length 2) [x,y] H.size 0:=by
  exact Own.sl (w:=[x,y]) (Own.new H [.int .i64 x,.int .i64 y] 3) (fun z hz => by
    rcases List.mem_cons.1 hz with e | hz
    · rw [e]; exact hx
    · rw [List.mem_singleton.1 hz]; exact hy) (show 2 ≤ Go.maxLen by decide) 2
theorem elemOkP:ElemOk Try.prog #[35,35] 40 stE.sz:=⟨⟨35,35,_,Try.t40,.agg ⟨[.int .i64 0,.int .i64 0]⟩,rfl,rfl,Try.underlying35,Try.underlying35,rfl,by kernel_rfl,by kernel_rfl,by kernel_rfl,by kernel_rfl,of_decide_eq_true (by kernel_rfl)⟩,by show 0 < 2; decide⟩
def ltS (x y:Pt):Bool:=decide (y.1 < x.1 ∨ (x.1 = y.1 ∧ x.2 < y.2))
theorem swoS:Sort.SWO ltS where
  irrefl:=fun x => by simp [ltS]
  trans:=fun x y z h1 h2 => by simp only [ltS,decide_eq_true_eq] at *; omega
  ntrans:=fun x y z h1 h2 => by simp only [ltS,decide_eq_false_iff_not] at *; omega
theorem cmp3_r (x y:Int):R64 (cmp3 x y):=by unfold cmp3 R64; split <;> (try split) <;> decide

variable {S:AM.Sys} (hS:Only S 11)
include hS

theorem cmpOr_runs (x y:Int) (v:Value) (r o:Nat) (H:Heap) (hl:SlI .i64 H v [x,y] r o):Runs Try.prog S (.fn 73) [v] H (.int .i64 (if x = 0 then y else x)) H:=by
  suffices h:WCall Try.prog S (.fn 73) [v] H (fun u H' => u = .int .i64 (if x = 0 then y else x) ∧ H' = H) by
    obtain ⟨_,_,hr,rfl,rfl⟩:=h; exact hr
  obtain ⟨a,c,rfl⟩:=hl.v0;have hz:∃ z,z = if x = 0 then y else x:=⟨_,rfl⟩
  obtain ⟨z,hz⟩:=hz;rw [← hz];have hl2:((([x,y] : List Int).length:Nat):Int) = 2:=rfl;refine Zaba Try.func73 rfl (Nat.le_of_ble_eq_true rfl) (hS.no rfl _ _) ?_
  rw [Try.ntmps73,Try.results73]
  repeat' simp only [↓Zabx,↓Zabz,↓Zaaj,↓Zabu,↓Zaby,↓Zacw,↓Zacv,↓Zadb,↓Zaau,↓Zaam,↓Zaas,↓bxPut,↓Zabs,↓Zabq,↓Zacz,↓Zada,↓Zadc,↓Zabg,↓Zabe,Zacx,Zabm,↓reduceIte,Nat.reduceEqDiff,Nat.reduceLT, *,argF,List.getD_cons_zero,lenIs]
  refine sxL_of (fun m ρ H1 => ∃ k:Nat,m = 2 - k ∧ k ≤ 2 ∧ H1 = H ∧ (0 < k → x = 0) ∧ (1 < k → y = 0) ∧
      ρ 3 = .int .i64 0 ∧ ρ 6 = .slice a ([x,y] : List Int).length c ∧ ρ 7 = .int .i64 2 ∧ ρ 8 = .int .i64 (k:Int))
    ⟨0,rfl,Nat.zero_le _,rfl,fun h => absurd h (Nat.lt_irrefl 0),fun h => by omega,rfl,rfl,rfl,rfl⟩ ?_
  rintro m ρ H1 ⟨k,rfl,hk,rfl,hx,hy,e3,e6,e7,e8⟩
  by_cases hlt:k < 2
  · have hlt':(k:Int) < 2:=by omega
    have hw:IntKind.i64.wrap ((k:Int) + 1) = ((k + 1:Nat):Int):=by rw [IntWalk.i64_in _ (by omega)]; omega
    have hob:=SlI_at hl (show k < ([x,y] : List Int).length from hlt)
    obtain ⟨hix,hrd⟩:=hob;have hgv:∃ q,q = ([x,y] : List Int).getD k 0:=⟨_,rfl⟩;obtain ⟨q,hq⟩:=hgv;rw [← hq] at hrd;have hqv:(k = 0 ∧ q = x) ∨ (k = 1 ∧ q = y):=by
      rcases (show k = 0 ∨ k = 1 by omega) with e | e
      · exact .inl ⟨e,by rw [hq,e]; rfl⟩
      · exact .inr ⟨e,by rw [hq,e]; rfl⟩
    clear hq
    by_cases c1:q = 0
    · have d1:decide (¬ q = 0) = false:=decide_eq_false fun h => h c1
      have hx':0 < k + 1 → x = 0:=fun _ => by
        rcases hqv with ⟨h1,h2⟩ | ⟨h1,h2⟩
        · omega
        · exact hx (by omega)
      have hy':1 < k + 1 → y = 0:=fun h => by
        rcases hqv with ⟨h1,h2⟩ | ⟨h1,h2⟩
        · omega
        · omega
      clear hx hy hqv c1 hl hz hl2
      repeat' simp only [↓Zaca,↓Zabx,↓Zabz,↓Zaai,↓Zabu,↓Zabw,↓Zaby,↓Zacw,↓Zacv,↓Zadb,↓Zaau,↓Zaam,↓Zaat,↓Zaan,↓Zaar,↓bxPut,↓Zabs,↓Zabr,↓Zabt,↓Zaag,↓Zaah,↓Zaaf,↓Zabk,↓Zabj,↓Zabl,↓Zabq,↓Zacz,↓Zada,↓Zadc,↓Zabg,↓Zabe,Zacx,Zaae,Zabi,Zacu,Zact,Zabm,↓reduceIte,Nat.reduceEqDiff,Nat.reduceLT,dec_T,true_and,one1,Option.bind_some, *,ldC,one1]
      exact ⟨2 - (k + 1),by omega,k + 1,rfl,by omega,hx',hy',rfl⟩
    · have d1:decide (¬ q = 0) = true:=decide_eq_true c1;have hzq:z = q:=by
        rcases hqv with ⟨h1,h2⟩ | ⟨h1,h2⟩
        · rw [hz,if_neg (by omega)]; exact h2.symm
        · rw [hz,if_pos (hx (by omega))]; exact h2.symm
      subst hzq;clear hx hy hqv c1 hl hz hl2
      repeat' simp only [↓Zaca,↓Zabx,↓Zabz,↓Zaai,↓Zabu,↓Zabw,↓Zaby,↓Zacw,↓Zacv,↓Zadb,↓Zaau,↓Zaam,↓Zaat,↓Zaan,↓Zaar,↓bxPut,↓Zabs,↓Zabr,↓Zabt,↓Zaag,↓Zaah,↓Zaaf,↓Zabk,↓Zabj,↓Zabl,↓Zabq,↓Zacz,↓Zada,↓Zadc,↓Zabg,↓Zabe,Zacx,Zaae,Zabi,Zacu,Zabm,↓reduceIte,Nat.reduceEqDiff,Nat.reduceLT,dec_T,and_self,one1,Option.bind_some, *,ldC,one1]
  · have hke:k = 2:=by omega
    subst hke;have hlt':¬ (((2:Nat):Int) < 2):=by decide
    have h0:z = 0:=by rw [hz,if_pos (hx (by omega))]; exact hy (by omega)
    subst h0;clear hx hy hl hz hl2
    repeat' simp only [↓Zaca,↓Zabx,↓Zabz,↓Zaai,↓Zabu,↓Zabw,↓Zaby,↓Zacw,↓Zacv,↓Zadb,↓Zaau,↓Zaam,↓Zaat,↓Zaan,↓Zaar,↓bxPut,↓Zabs,↓Zabr,↓Zabt,↓Zaag,↓Zaah,↓Zaaf,↓Zabk,↓Zabj,↓Zabl,↓Zabq,↓Zacz,↓Zada,↓Zadc,↓Zabg,↓Zabe,Zacx,Zaae,Zabi,Zact,Zabm,↓reduceIte,Nat.reduceEqDiff,Nat.reduceLT,dec_F,and_self, *]

set_option maxHeartbeats 2000000 in
theorem bestC_runs (x y:Pt) (H:Heap) (hL:H.low ≤ H.size):∃ z H',Keep H H' ∧ (z < 0 ↔ ltS x y = true) ∧ Runs Try.prog S (.fn 72) [.agg ⟨pc x⟩,.agg ⟨pc y⟩] H (.int .i64 z) H':=by
  suffices h:WCall Try.prog S (.fn 72) [.agg ⟨pc x⟩,.agg ⟨pc y⟩] H (fun v H' => v = .int .i64 (if cmp3 y.1 x.1 = 0 then cmp3 x.2 y.2 else cmp3 y.1 x.1) ∧ Keep H H') by
    obtain ⟨_,H',hr,rfl,hk⟩:=h;refine ⟨_,H',hk,?_,hr⟩;unfold ltS cmp3;rw [decide_eq_true_iff];split <;> split <;> (try split) <;> (try split) <;> omega
  obtain ⟨H1,e1,hK1,g2,g0,g1⟩:=boxP H x;obtain ⟨H2,e2,hK2,p2,p0,p1⟩:=boxP H1 y;have hz1:H.size < H1.size:=by rw [← e1,size_new]; omega
  have q0:=hK2.read hz1 g0;have q1:=hK2.read hz1 g1;have hK:=hK1.trans hK2;have hL2:=hK.low hL;have f1:=(cmpV_runs hS y.1 x.1 (H2.relow H2.size)).bx;have f2:=(cmpV_runs hS x.2 y.2 (H2.relow H2.size)).bx;obtain ⟨z1,hz1'⟩:∃ z,z = cmp3 y.1 x.1:=⟨_,rfl⟩;obtain ⟨z2,hz2'⟩:∃ z,z = cmp3 x.2 y.2:=⟨_,rfl⟩;have r1:R64 z1:=by rw [hz1']; exact cmp3_r _ _
  have r2:R64 z2:=by rw [hz2']; exact cmp3_r _ _
  rw [← hz1'] at f1;rw [← hz2'] at f2;rw [← hz1',← hz2'];have bs:=bs2 (H2.relow H2.size) z1 z2;have k3:=Keep.newExact (H2.relow H2.size) [.int .i64 z1,.int .i64 z2] 3;have s3:=two_sl (H2.relow H2.size) z1 z2 r1 r2;obtain ⟨H3,hH3⟩:∃ H3,H3 = (H2.relow H2.size).newExact [.int .i64 z1,.int .i64 z2] 3:=⟨_,rfl⟩;rw [← hH3] at bs k3 s3;have k4:=Keep.draw k3;have fd3:∀ (all:List Oper) (n:Nat) (k:Heap → Prop),sxD all n H2 H3 k = k (H3.relow (Nat.min H2.low H3.low)):=fun all n k => sxD_keep k3 k
  obtain ⟨H4,hH4⟩:∃ H4,H4 = H3.relow (Nat.min H2.low H3.low):=⟨_,rfl⟩;have s4:SlI .i64 (H4.relow H4.size) (.slice (some ⟨H2.size,0,none⟩) ([z1,z2] : List Int).length 2) [z1,z2] H2.size 0:=by rw [hH4]; exact ⟨s3.isv,fun i hi => s3.rd i hi,s3.lt,s3.ml⟩
  rw [← hH4] at k4 fd3;have f3:∀ (K:Value → Heap → Prop) (b:Blk K),sxCallB Try.prog S (.fn 73) [.slice (some ⟨H2.size,0,none⟩) 2 2] (H4.relow H4.size) K b = K (.int .i64 (if z1 = 0 then z2 else z1)) (H4.relow H4.size):=(cmpOr_runs hS z1 z2 _ _ _ _ s4).bx
  have hL4:=k4.low hL2;have hK4:=hK.trans k4;obtain ⟨z,hz⟩:∃ z,z = if z1 = 0 then z2 else z1:=⟨_,rfl⟩
  rw [← hz] at f3;rw [← hz];clear hz hH3 hH4 s3 s4 k3 k4 hz1' hz2' r1 r2 hK hK1 hK2 hz1 g0 g1 g2 p2;refine Zaba Try.func72 rfl (Nat.le_of_ble_eq_true rfl) (hS.no rfl _ _) ?_
  rw [Try.ntmps72,Try.results72]
  repeat' (first | simp only [↓Zabv,↓Zabx,↓Zabz,↓Zaby,↓Zacw,↓Zacv,↓Zaco,↓Zaak,↓sxDL_assign,↓sxDL_buildSlice,↓Zaci,↓Zacg,↓Zacn,↓Zadb,↓Zaam,↓bxOp_box,↓Zaao,↓Zaat,↓Zaaq,↓Zaay,↓bxPut,↓Zabs,↓Zabq,↓Zacz,↓Zada,↓Zadc,↓Zabg,↓Zabe,↓Zabf,Zacx,Zacb,Zabm,List.map,List.nil_append,List.append_nil,↓reduceIte,Nat.reduceEqDiff,Nat.reduceLT,true_and,size_relow,Zaab,Nat.add_zero,one1,Option.bind_some, *,argF,List.getD_cons_zero,List.getD_cons_succ,Zabb,faS0,faS1,ldC,one1] | (with_reducible first | refine Zacd (by assumption) (by decide +kernel) ?_ | refine Zacc (by decide +kernel) ?_ | refine Zacm (by decide +kernel) ?_ | refine Zacf ?_))
end Go.Proofs.Yteechkbnccpicaa

namespace Go.Proofs.Yteechkbnccpicaa
open Go Go.AM
set_option maxRecDepth 10000

theorem stableS (L:Nat):Stable stE L:=stable_prod (stable_int _ _) (stable_int _ _)
theorem toList_at {d:Array Pt} {i:Nat} (hi:i < d.size):d.toList.getD i default = d[i]!:=by
  rw [getElem!_pos _ i hi,List.getD_eq_getElem?_getD,List.getElem?_eq_getElem (by simpa using hi)]
  rfl
theorem perm_mem {d R:Array Pt} (h:Sort.PermIn 0 d.size d R) (x:Pt):x ∈ R.toList ↔ x ∈ d.toList:=by
  obtain ⟨h1,_,h3⟩:=h;have e1:d.extract 0 d.size = d:=by simp
  have e2:R.extract 0 d.size = R:=by rw [← h1]; simp
  rw [e1,e2] at h3;exact h3.mem_iff
structure KeptTo (S:Array Pt) (k:Nat) (m:List Pt):Prop where
  asc:AscP m
  mem:∀ x ∈ m,∃ j,j < k ∧ x = S[j]!
  dom:∀ j,j < k → ∃ q ∈ m,S[j]!.1 ≤ q.1 ∧ q.2 ≤ S[j]!.2
  len:m.length ≤ k
theorem KeptTo.zero (S:Array Pt):KeptTo S 0 []:=⟨AscP.nil,(fun x hx => by cases hx),fun j hj => absurd hj (Nat.not_lt_zero j),Nat.le_refl _⟩
def SortedS (S:Array Pt):Prop:=Sort.SortedIn ltS 0 S.size S
theorem SortedS.le {S:Array Pt} (h:SortedS S) {i j:Nat} (hij:i < j) (hj:j < S.size):S[j]!.1 ≤ S[i]!.1 ∧ (S[j]!.1 = S[i]!.1 → S[i]!.2 ≤ S[j]!.2):=by
  have h1:=h i j (Nat.zero_le _) hij hj;unfold ltS at h1;have h2:=of_decide_eq_false h1;exact ⟨by omega,fun h => by omega⟩
theorem KeptTo.push {S:Array Pt} {k:Nat} {m:List Pt} (hs:SortedS S) (h:KeptTo S k m) (hk:k < S.size) (hn:∀ q m',m = q :: m' → S[k]!.2 < q.2):KeptTo S (k + 1) (S[k]! :: m) where
  asc:=by
    refine List.pairwise_cons.2 ⟨fun x hx => ?_,h.asc⟩
    cases m with
    | nil => cases hx
    | cons q m' =>
      have h1:=hn q m' rfl;have h2:q.1 ≤ x.1 ∧ q.2 ≤ x.2:=by
        rcases List.mem_cons.1 hx with e | hx
        · rw [e]; exact ⟨Int.le_refl _,Int.le_refl _⟩
        · have:=(List.pairwise_cons.1 h.asc).1 x hx;exact ⟨by omega,by omega⟩
      obtain ⟨j,hj,e⟩:=h.mem q (List.mem_cons_self ..);have h3:=hs.le hj hk;rw [← e] at h3;refine ⟨?_,by omega⟩
      rcases Int.lt_or_eq_of_le h3.1 with h4 | h4
      · omega
      · have:=h3.2 h4; omega
  mem:=fun x hx => by
    rcases List.mem_cons.1 hx with e | hx
    · exact ⟨k,Nat.lt_succ_self k,e⟩
    · obtain ⟨j,hj,e⟩:=h.mem x hx;exact ⟨j,by omega,e⟩
  dom:=fun j hj => by
    rcases Nat.lt_or_ge j k with h1 | h1
    · obtain ⟨q,hq,h2⟩:=h.dom j h1;exact ⟨q,List.mem_cons_of_mem _ hq,h2⟩
    · rw [show j = k by omega]
      exact ⟨_,List.mem_cons_self ..,Int.le_refl _,Int.le_refl _⟩
  len:=by have:=h.len; rw [List.length_cons]; omega
theorem KeptTo.skip {S:Array Pt} {k:Nat} {q:Pt} {m:List Pt} (hs:SortedS S) (h:KeptTo S k (q :: m)) (hk:k < S.size) (hn:¬ S[k]!.2 < q.2):KeptTo S (k + 1) (q :: m) where
  asc:=h.asc
  mem:=fun x hx => by
    obtain ⟨j,hj,e⟩:=h.mem x hx;exact ⟨j,by omega,e⟩
  dom:=fun j hj => by
    rcases Nat.lt_or_ge j k with h1 | h1
    · exact h.dom j h1
    · rw [show j = k by omega]
      obtain ⟨i,hi,e⟩:=h.mem q (List.mem_cons_self ..);have h3:=hs.le hi hk;rw [← e] at h3;exact ⟨q,List.mem_cons_self ..,h3.1,by omega⟩
  len:=by have:=h.len; omega
theorem KeptTo.best {S:Array Pt} {m:List Pt} (h:KeptTo S S.size m):BestOf (fun x y => (x,y) ∈ S.toList) m where
  mem:=fun x hx => by
    obtain ⟨j,hj,e⟩:=h.mem x hx;show x ∈ S.toList;rw [e,getElem!_pos _ j hj];exact Array.getElem_mem_toList hj
  asc:=h.asc
  dom:=fun a b hab => by
    obtain ⟨j,hj,e⟩:=List.getElem_of_mem hab;have hj':j < S.size:=by simpa using hj
    obtain ⟨q,hq,h1,h2⟩:=h.dom j hj';have:S[j]! = (a,b):=by rw [getElem!_pos _ j hj']; simpa using e
    rw [this] at h1 h2;exact ⟨q,hq,h1,h2⟩

variable {S:AM.Sys} (hS:Only S 11)
include hS

theorem sorted_pts (H0 H:Heap) (v:Value) (d:Array Pt) (hL0:H0.low ≤ H0.size) (h:PtsIn H0 H v d) :
    ∃ u H1 R,Runs Try.prog S (.fn 71) [v,.func (.func 72) ⟨[]⟩ ⟨[]⟩] H u H1 ∧ PtsIn H0 H1 v R ∧ R.size = d.size ∧ SortedS R ∧ ∀ x,x ∈ R.toList ↔ x ∈ d.toList:=by
  obtain ⟨hV,hm,hg,hk,⟨h1,rfl⟩ | ⟨hp,b,r,k,rfl,ha⟩⟩:=h
  · obtain ⟨u,hR⟩:=sortN_runs hS (.func (.func 72) ⟨[]⟩ ⟨[]⟩) H;exact ⟨u,H,d,hR,⟨hV,hm,hg,hk,.inl ⟨h1,rfl⟩⟩,rfl,fun i j _ _ hj => by omega,fun x => Iff.rfl⟩
  · have hc:CmpP S 72 [] [] (onH H0) R2 ltS:=fun Hx x y hk _ _ => by
      obtain ⟨z,H2,hk2,hz,hR⟩:=bestC_runs hS x y Hx (hk.low hL0);exact ⟨z,H2,hk2,hz,hR⟩
    obtain ⟨u,H1,hR,R,p1,p2,p3,p4,p5,p6⟩:=sortP_runs hS hc hL0 (c:=d.size) swoS d H hm ha hV;refine ⟨u,H1,R,hR,⟨p3,by omega,hg,p5.keep,.inr ⟨by omega,b,r,k,by rw [p4],p5⟩⟩,p4,?_,perm_mem p1⟩
    unfold SortedS;rw [p4]; exact p2
theorem rev_pts (H0 H:Heap) (v:Value) (d:Array Pt) (hL0:H0.low ≤ H0.size) (h:PtsIn H0 H v d) :
    ∃ u H1 R,Runs Try.prog S (.fn 74) [v] H u H1 ∧ PtsIn H0 H1 v R ∧ R.toList = d.toList.reverse:=by
  obtain ⟨hV,hm,hg,hk,⟨h1,rfl⟩ | ⟨hp,b,r,k,rfl,ha⟩⟩:=h
  · obtain ⟨u,hR⟩:=revN_runs hS H;have h2:d.toList = []:=List.length_eq_zero_iff.1 (by simpa using h1)
    exact ⟨u,H,d,hR,⟨hV,hm,hg,hk,.inl ⟨h1,rfl⟩⟩,by rw [h2]; rfl⟩
  · obtain ⟨u,H1,R,hR,p1,p2,p3⟩:=revS_runs hS (HB:=onH H0) hL0 (c:=d.size) d H ha hp (by omega)
    refine ⟨u,H1,R,hR,⟨fun i hi => ?_,by omega,hg,p1.keep,.inr ⟨by omega,b,r,k,by rw [p2],p1⟩⟩,?_⟩
    · rw [p3 i (by omega)]
      exact hV _ (by omega)
    · refine List.ext_getElem (by simp [p2]) fun i h1 h2 => ?_
      have hi:i < R.size:=by simpa using h1
      have h3:=p3 i (by omega)
      rw [getElem!_pos _ i hi,getElem!_pos _ (d.size - 1 - i) (by omega)] at h3
      simpa using h3

def PostBest (H0:Heap) (P:Int → Int → Prop) (N:Nat) (u:Value) (H':Heap):Prop:=∃ R:List Pt,PtsIn H0 H' u R.toArray ∧ BestOf P R ∧ R.length ≤ N

set_option maxHeartbeats 4000000 in
theorem best_runs (H0 H:Heap) (v:Value) (d:Array Pt) (hL0:H0.low ≤ H0.size) (h:PtsIn H0 H v d) :
    ∃ u H',Runs Try.prog S (.fn 48) [v] H u H' ∧ PostBest H0 (fun x y => (x,y) ∈ d.toList) d.size u H':=by
  suffices h:WCall Try.prog S (.fn 48) [v] H (fun u H' => PostBest H0 (fun x y => (x,y) ∈ d.toList) d.size u H') by
    obtain ⟨u,H',hr,h⟩:=h; exact ⟨u,H',hr,h⟩
  obtain ⟨u1,H1,Z,hR,hin,hsz,hso,hmm⟩:=sorted_pts hS H0 H v d hL0 h;have hmm':∀ m,BestOf (fun x y => (x,y) ∈ Z.toList) m → BestOf (fun x y => (x,y) ∈ d.toList) m:=fun m hb => hb.congr fun x y => hmm (x,y)
  obtain ⟨r,hsl,_⟩:=hin.sl;obtain ⟨hV,hm6,hg0,hk1,_⟩:=hin;obtain ⟨a,c,hv⟩:=hsl.v0;have hzl:Z.toList.length = Z.size:=Array.length_toList;rw [hzl] at hv;have hg1:Grp H1:=hk1.grp hg0;have hL1:=hk1.low hL0;have f1:=hR.bx;subst hv;have hsl:SlP H1 (.slice a Z.toList.length c) Z.toList r 0:=by rw [hzl]; exact hsl
  have ny:notYield (.func 72) = true:=rfl;have hszl:Z.size ≤ d.size:=by omega
  clear hR hmm h hsz;refine Zaba Try.func48 rfl (Nat.le_of_ble_eq_true rfl) (hS.no rfl _ _) ?_
  rw [Try.ntmps48,Try.results48]
  repeat' simp only [↓Zabx,↓Zabz,↓Zaaj,↓Zabu,↓Zaby,↓Zacw,↓Zacv,↓Zadb,↓Zaau,↓Zaam,↓Zaay,↓Zaas,↓bxPut,↓Zabs,↓Zabq,↓Zacz,↓Zada,↓Zadc,↓Zabg,↓Zabe,↓Zabf,Zacx,Zacb,Zabm,List.map,List.nil_append,List.append_nil,↓reduceIte,Nat.reduceEqDiff,Nat.reduceLT, *,argF,List.getD_cons_zero,lenS]
  refine sxL_of (fun m ρ H5 => ∃ (k:Nat) (lv:Value) (q:List Pt),m = Z.size - k ∧ k ≤ Z.size ∧ Keep H1 H5 ∧ Grp H5 ∧ LstG stE 40 H1.size H5 lv q.reverse ∧ KeptTo Z k q ∧
      ρ 3 = lv ∧ ρ 8 = .slice a Z.size c ∧ ρ 9 = .int .i64 (Z.size:Int) ∧ ρ 10 = .int .i64 (k:Int))
    ⟨0,.slice none 0 0,[],rfl,Nat.zero_le _,Keep.refl _,hg1,LstG.nil,KeptTo.zero Z,rfl,rfl,rfl,rfl⟩ ?_
  clear f1;rintro m ρ H5 ⟨k,lv,q,rfl,hk,hK5,hg5,hlst,hkt,e3,e8,e9,e10⟩
  by_cases hlt:k < Z.size
  · have hlt':(k:Int) < (Z.size:Int):=by omega
    have hw:IntKind.i64.wrap ((k:Int) + 1) = ((k + 1:Nat):Int):=by rw [IntWalk.i64_in _ (by omega)]; omega
    have hob:=SlP_at (hsl.keep hK5) (show k < Z.toList.length by omega)
    obtain ⟨q0,hix,hrd,_,_,r1,r2⟩:=hob;rw [hzl] at hix;rw [toList_at hlt] at hrd r1 r2;have hng:=newS H5 Z[k]!;obtain ⟨H6,s6,hK6,_,g2,g0,g1⟩:=hng;have hal:=alS H5;have hK16:=hK5.trans hK6;have hL6:=hK16.low hL1;have hg6:=hK6.grp hg5;have hl6:=hlst.keep hK6;have hql:=hkt.len;have hpu:=hl6.push (t:=40) elemOkP (stableS 0) hg6 hK16.size (stE_at r1 r2) rfl (by rw [List.length_reverse]; omega)
    obtain ⟨v7,H7,ap7,hl7,gr7⟩:=hpu;have bs7:=bs1P H6 Z[k]!;have hK17:=gr7.base H1 hg1 hK16 (Nat.le_refl _);have hg7:=gr7.grp hg6;unfold pc at hrd s6 g2 bs7 ap7;rw [show q.reverse ++ [Z[k]!] = (Z[k]! :: q).reverse from (List.reverse_cons ..).symm] at hl7
    cases q with
    | nil =>
      have hkt':=hkt.push hso hlt (fun q m' h => by cases h)
      have hlv:lv = .slice none 0 0:=by
        rcases hlst with ⟨_,h⟩ | ⟨_,_,_,_,_,_,_,_,h,_⟩
        · exact h
        · exact absurd h (Nat.lt_irrefl 0)
      subst hlv;have c0:((0:Nat):Int) = 0:=rfl;have d0:decide ((0:Int) = 0) = true:=rfl;clear hlst hkt hsl hl6 gr7 hK5 hK6 hK16
      repeat' (first | simp only [↓Zaca,↓Zabv,↓Zabx,↓Zabz,↓Zaai,↓Zabu,↓Zabw,↓Zacw,↓Zacv,↓Zaco,↓Zaak,↓Zacj,↓Zack,↓Zaci,↓Zace,↓Zacg,↓Zach,↓Zacn,↓Zadb,↓Zaaz,↓Zaau,↓Zaam,↓Zaav,↓Zaal,↓Zaao,↓Zaat,↓Zaaw,↓Zaan,↓Zaaq,↓Zaar,↓Zaas,↓bxOp_append,↓Zacy,↓bxPut,↓Zabs,↓Zabr,↓Zaag,↓Zaaf,↓Zabk,↓Zabj,↓Zadc,↓Zabg,↓Zabe,↓dstAt,↓Zabh,Zacx,Zaae,Zabi,Zaad,Zacq,Zacu,List.map,↓reduceIte,Nat.reduceEqDiff,Nat.reduceLT,dec_T,true_and,Option.map_some, *,lenS,ldS] | (with_reducible first | refine Zacd (by assumption) (by decide +kernel) ?_ | refine Zacc (by decide +kernel) ?_ | refine Zacm (by decide +kernel) ?_ | refine Zacf ?_))
      exact ⟨Z.size - (k + 1),by omega,k + 1,v7,_,rfl,by omega,hl7,hkt',rfl,rfl⟩
    | cons y q =>
      have hlv:∃ a2,lv = .slice a2 (y :: q).reverse.length (y :: q).reverse.length:=hlst.isv;obtain ⟨a2,hlv⟩:=hlv;have hln:(y :: q).reverse.length = q.length + 1:=by simp
      have hyl:(y :: q).reverse.getD q.length default = y:=by
        rw [List.reverse_cons,List.getD_eq_getElem?_getD,List.getElem?_append_right (by simp)]
        simp
      have hqn:q.length + 1 ≤ k:=by rw [← List.length_cons (a:=y)]; exact hkt.len
      have hmx:Go.maxLen = 9223372036854775807:=rfl;have hs6:=hl6.sl (by omega)
      obtain ⟨r6,hs6,_⟩:=hs6;rw [hlv] at hs6;have hob2:=SlP_at hs6 (show q.length < (y :: q).reverse.length by omega)
      obtain ⟨q2,hix2,_,_,p1,_,_⟩:=hob2;rw [hyl] at p1;rw [hln] at hix2 hlv;have d0:decide (((q.length + 1:Nat):Int) = 0) = false:=decide_eq_false (by omega)
      have hw1:IntKind.i64.wrap (((q.length + 1:Nat):Int) - 1) = (q.length:Int):=by rw [IntWalk.i64_in _ (by omega)]; omega
      subst hlv
      by_cases c1:Z[k]!.2 < y.2
      · have hkt':=hkt.push hso hlt (fun q' m' h => by cases h; exact c1)
        clear hlst hkt hsl hl6 gr7 hK5 hK6 hK16 hs6 hyl hln hqn hmx hql
        repeat' (first | simp only [↓Zaca,↓Zabv,↓Zabx,↓Zabz,↓Zaai,↓Zabu,↓Zabw,↓Zacw,↓Zacv,↓Zaco,↓Zaak,↓Zacj,↓Zack,↓Zaci,↓Zace,↓Zacg,↓Zach,↓Zacn,↓Zadb,↓Zaaz,↓Zaau,↓Zaam,↓Zaav,↓Zaal,↓Zaao,↓Zaat,↓Zaaw,↓Zaan,↓Zaaq,↓Zaar,↓Zaas,↓bxOp_append,↓Zacy,↓bxPut,↓Zabs,↓Zabr,↓Zaag,↓Zaaf,↓Zabk,↓Zabj,↓Zadc,↓Zabg,↓Zabe,↓dstAt,↓Zabh,Zacx,Zaae,Zabi,Zaac,Zacp,Zacu,List.map,↓reduceIte,Nat.reduceEqDiff,Nat.reduceLT,dec_T,true_and,Zaab,one1,Option.bind_some,Option.map_some, *,lenS,ldS,ldC,one1,faS1] | (with_reducible first | refine Zacd (by assumption) (by decide +kernel) ?_ | refine Zacc (by decide +kernel) ?_ | refine Zacm (by decide +kernel) ?_ | refine Zacf ?_))
        exact ⟨Z.size - (k + 1),by omega,k + 1,v7,_,rfl,by omega,hl7,hkt',rfl,rfl⟩
      · have hkt':=hkt.skip hso hlt c1;clear hlst hkt hsl gr7 hK5 hK6 hs6 hyl hln hK17 hl7 hqn hmx hql
        repeat' (first | simp only [↓Zaca,↓Zabv,↓Zabx,↓Zabz,↓Zaai,↓Zabu,↓Zabw,↓Zacw,↓Zacv,↓Zaco,↓Zaak,↓Zacj,↓Zack,↓Zaci,↓Zace,↓Zacg,↓Zach,↓Zacn,↓Zadb,↓Zaaz,↓Zaau,↓Zaam,↓Zaav,↓Zaal,↓Zaao,↓Zaat,↓Zaaw,↓Zaan,↓Zaaq,↓Zaar,↓Zaas,↓bxOp_append,↓Zacy,↓bxPut,↓Zabs,↓Zabr,↓Zaag,↓Zaaf,↓Zabk,↓Zabj,↓Zadc,↓Zabg,↓Zabe,↓dstAt,↓Zabh,Zacx,Zaae,Zabi,Zaac,Zacp,Zacu,Zact,↓reduceIte,Nat.reduceEqDiff,Nat.reduceLT,dec_T,dec_F,true_and,Zaab,one1,Option.bind_some,Option.map_some, *,lenS,ldS,ldC,one1,faS1] | (with_reducible first | refine Zacd (by assumption) (by decide +kernel) ?_ | refine Zacc (by decide +kernel) ?_ | refine Zacm (by decide +kernel) ?_ | refine Zacf ?_))
        exact ⟨Z.size - (k + 1),by omega,k + 1,_,_,rfl,by omega,hl6,hkt',rfl,rfl⟩
  · have hke:k = Z.size:=by omega
    subst hke;have hlt':¬ (((Z.size:Nat):Int) < ((Z.size:Nat):Int)):=by omega
    have hK05:=hk1.trans hK5;have hpi:=PtsIn.lst hlst hK05 hg0 hk1.size (by rw [List.length_reverse]; have:=hkt.len; omega)
    have hre:=rev_pts hS H0 H5 lv q.reverse.toArray hL0 hpi;obtain ⟨u6,H6,R,hR6,hin6,hR⟩:=hre;have hRq:R = q.toArray:=by
      apply Array.toList_inj.1;rw [hR];simp
    subst hRq;have hp:PostBest H0 (fun x y => (x,y) ∈ d.toList) d.size lv H6:=⟨q,hin6,hmm' q hkt.best,by have:=hkt.len; omega⟩
    have f6:=hR6.bx;clear hlst hkt hsl hK5 hpi hR6 hin6 hK05 hR
    repeat' (first | simp only [↓Zaca,↓Zabv,↓Zabx,↓Zabz,↓Zaai,↓Zabu,↓Zabw,↓Zacw,↓Zacv,↓Zaco,↓Zaak,↓Zacj,↓Zack,↓Zaci,↓Zace,↓Zacg,↓Zach,↓Zadb,↓Zaaz,↓Zaau,↓Zaam,↓Zaav,↓Zaal,↓Zaao,↓Zaat,↓Zaaw,↓Zaan,↓Zaaq,↓Zaar,↓Zaas,↓bxOp_append,↓Zacy,↓bxPut,↓Zabs,↓Zabr,↓Zaag,↓Zaaf,↓Zabk,↓Zabj,↓Zadc,↓Zabg,↓Zabe,↓dstAt,↓Zabh,Zacx,Zaae,Zabi,Zact,List.map,List.append_nil,↓reduceIte,Nat.reduceEqDiff,Nat.reduceLT,dec_F, *] | (with_reducible first | refine Zacd (by assumption) (by decide +kernel) ?_ | refine Zacc (by decide +kernel) ?_ | refine Zacm (by decide +kernel) ?_ | refine Zacf ?_))
end Go.Proofs.Yteechkbnccpicaa
