/- The fewest changes of the journeys that end with each leg, by the program. -/
import Derived.Test.YteechkbnccpicaaL4
import Derived.Test.YteechkbnccpicaaL3
set_option linter.unusedVariables false
set_option linter.unusedSimpArgs false
set_option linter.unusedSectionVars false

namespace Go.Proofs.Yteechkbnccpicaa
open Go Go.AM
set_option maxRecDepth 10000

structure CJ (H X:Heap) (b1 b2 lr:Nat) (c1 c2:List Value) (d:List Int):Prop where
  keep:Keep H X
  o1:Own X b1 64 c1
  o2:Own X b2 72 c2
  o3:Own X lr 3 (d.map fun z => .int .i64 z)
variable {H X Y:Heap} {b1 b2 lr:Nat} {c1 c2:List Value} {d:List Int}
theorem CJ.more (h:CJ H X b1 b2 lr c1 c2 d) (hk:Keep X Y):CJ H Y b1 b2 lr c1 c2 d:=⟨h.keep.trans hk,h.o1.keep hk,h.o2.keep hk,h.o3.keep hk⟩
theorem CJ.set (h:CJ H X b1 b2 lr c1 c2 d) (n1:b1 ≠ lr) (n2:b2 ≠ lr) (hr:H.size ≤ lr) {k:Nat} (hk:k < d.length) (z:Int):∃ Y,aStore Try.prog X 3 (.pointer (some ⟨lr,k,none⟩)) (.int .i64 z) = some Y ∧ CJ H Y b1 b2 lr c1 c2 (d.set k z):=by
  obtain ⟨i,hi,hsz⟩:=infoI;obtain ⟨Y,e1,e2,e3,e4,e5⟩:=h.o3.store (t:=3) hi (v:=.int .i64 z) (new:=[.int .i64 z]) rfl (by rw [hsz]; rfl) rfl (o:=k) (by simp; omega)
  rw [splice_map hk] at e2;exact ⟨Y,e1,e5 H h.keep hr,e4 _ _ _ n1 h.o1,e4 _ _ _ n2 h.o2,e2⟩
theorem CJ.rd (h:CJ H X b1 b2 lr c1 c2 d) {k:Nat} (hk:k < d.length):X.read lr k 1 = some [.int .i64 (d.getD k 0)]:=by
  rw [h.o3.read (o:=k) (n:=1) (by simp; omega),← List.map_drop,← List.map_take,List.drop_eq_getElem_cons hk,List.getD_eq_getElem?_getD,List.getElem?_eq_getElem hk]
  rfl
theorem set_other {d:List Int} {i j:Nat} {z:Int} (h:i ≠ j):(d.set j z).getD i 0 = d.getD i 0:=by
  rw [List.getD_eq_getElem?_getD,List.getD_eq_getElem?_getD,List.getElem?_set_ne (fun e => h e.symm)]
theorem set_same {d:List Int} {j:Nat} {z:Int} (h:j < d.length):(d.set j z).getD j 0 = z:=by
  rw [List.getD_eq_getElem?_getD,List.getElem?_set_self h]; rfl
def DoneC (ls:List Lg) (ch fr at':Int) (R:Array Int) (k:Nat) (d:List Int):Prop:=∀ s,s < k → s < ls.length → CW ls ch (BegB fr at') R[s]!.toNat (d.getD R[s]!.toNat 0) ∧ (d.getD R[s]!.toNat 0 = 10060 ∨ (0 ≤ d.getD R[s]!.toNat 0 ∧ d.getD R[s]!.toNat 0 ≤ s))
def PostCh (ls:List Lg) (ch fr at':Int) (H:Heap) (u:Value) (H':Heap):Prop:=
  ∃ (lr:Nat) (d:List Int),u = .slice (some ⟨lr,0,none⟩) ls.length ls.length ∧ Keep H H' ∧ Own H' lr 3 (d.map fun z => .int .i64 z) ∧ H.size ≤ lr ∧ d.length = ls.length ∧ ∀ j,j < ls.length → CW ls ch (BegB fr at') j (d.getD j 0) ∧ (d.getD j 0 = 10060 ∨ (0 ≤ d.getD j 0 ∧ d.getD j 0 < ls.length))

variable {S:AM.Sys} (hS:Only S 11)
include hS

set_option maxHeartbeats 8000000 in
theorem changes_runs {ls:List Lg} {a:Option Addr} {c r o:Nat} {ch:Int} {ro:Nat} {R:Array Int} {H:Heap} (tt:TT ls a c r o ch ro R H) (fr to at' by':Int) (hL:H.low ≤ H.size) (hg:Grp H) :
    ∃ u H',Runs Try.prog S (.fn 76) [tvo ls a c ch ro,wv fr to at' by'] H u H' ∧ PostCh ls ch fr at' H u H':=by
  suffices h:WCall Try.prog S (.fn 76) [tvo ls a c ch ro,wv fr to at' by'] H (fun u H' => PostCh ls ch fr at' H u H') by
    obtain ⟨u,H',hr,h⟩:=h; exact ⟨u,H',hr,h⟩
  obtain ⟨H1,e1,hK1,t3,t0,t1,t2⟩:=boxT H a ls.length c ch (.slice (some ⟨ro,0,none⟩) ls.length ls.length);have o1:Own H1 H.size 64 [.slice a ls.length c,.int .i64 ch,.slice (some ⟨ro,0,none⟩) ls.length ls.length]:=by rw [← e1]; exact Own.new _ _ _
  have z1:H1.size = H.size + 1:=by rw [← e1,size_new]
  obtain ⟨H2,e2,hK2,w4,w0,w1,w2,w3⟩:=boxW H1 fr to at' by'
  have o2:Own H2 H1.size 72 [.int .i64 fr,.int .i64 to,.int .i64 at',.int .i64 by']:=by rw [← e2]; exact Own.new _ _ _
  have z2:H2.size = H1.size + 1:=by rw [← e2,size_new]
  have h60:=tt.few;obtain ⟨H3,e3⟩:∃ H3,H2.newExact [.int .i64 10060] 3 = H3:=⟨_,rfl⟩;have hK3:Keep H2 H3:=by rw [← e3]; exact Keep.newExact _ _ _
  have o3:Own H3 H2.size 3 [.int .i64 10060]:=by rw [← e3]; exact Own.new _ _ _
  have bs3:aBuildSlice Try.prog H2 25 1 [(0,.int .i64 10060)] = some (.slice (some ⟨H2.size,0,none⟩) 1 1,H3):=by rw [← e3]; kernel_rfl
  have z3:H3.size = H2.size + 1:=by rw [← e3,size_new]
  have K3:=(hK1.trans hK2).trans hK3;obtain ⟨H4,R4,hK4,o4⟩:=rep_runs hS 10060 ls.length H2.size H3 (by omega) (K3.grp hg) (K3.low hL) o3
  have f4:=R4.bx;have cj:CJ H H4 H.size H1.size H3.size [.slice a ls.length c,.int .i64 ch,.slice (some ⟨ro,0,none⟩) ls.length ls.length] [.int .i64 fr,.int .i64 to,.int .i64 at',.int .i64 by'] (List.replicate ls.length 10060):=
    ⟨K3.trans hK4,((o1.keep hK2).keep hK3).keep hK4,(o2.keep hK3).keep hK4,o4⟩
  have n1:H.size ≠ H3.size:=by omega
  have n2:H1.size ≠ H3.size:=by omega
  have n3:H.size ≤ H3.size:=by omega
  have u0:H3.read H.size 0 1 = some [.slice a ls.length c]:=((o1.keep hK2).keep hK3).read (o:=0) (n:=1) (by simp)
  have u2:H4.read H.size 2 1 = some [.slice (some ⟨ro,0,none⟩) ls.length ls.length]:=cj.o1.read (o:=2) (n:=1) (by simp)
  unfold tvo tv wv;refine Zabc Try.func76 rfl (Nat.le_of_ble_eq_true rfl) (hS.no rfl _ _) ?_
  rw [Try.ntmps76,Try.results76];clear e3 hK3 o3 z1 z2 z3 hK1 hK2 hK4 o1 o2 o4 t0 t1 t2 t3 w0 w1 w2 w3 w4 R4 K3
  repeat' (first | simp only [↓Zabz,↓Zacb,↓Zaaj,↓Zabw,↓Zaca,↓Zacy,↓Zacx,↓Zadd,↓Zaaw,↓Zaan,↓bxOp_box,↓Zaaq,↓Zaav,↓Zaas,↓Zaba,↓Zaau,↓bxPut,↓Zabu,↓Zabs,↓Zadb,↓Zadc,↓Zade,↓Zabi,↓Zabg,↓Zabh,Zacz,Zacd,Zabo,List.map_cons,List.map_nil,List.nil_append,List.append_nil,↓reduceIte,Nat.reduceEqDiff,Nat.reduceLT,Nat.add_zero,one1,Option.bind_some, *,argF,List.getD_cons_zero,List.getD_cons_succ,Zabd,faT0,faT2,ldLs,ldIs,lenG,lenIs,one1])
  --A
  have L4:=cj.keep.low hL
  refine sxL_of (fun m ρ X => ∃ (k:Nat) (d:List Int),m = ls.length - k ∧ k ≤ ls.length ∧ CJ H X H.size H1.size H3.size [.slice a ls.length c,.int .i64 ch,.slice (some ⟨ro,0,none⟩) ls.length ls.length] [.int .i64 fr,.int .i64 to,.int .i64 at',.int .i64 by'] d ∧ d.length = ls.length ∧ DoneC ls ch fr at' R k d ∧ (∀ s,k ≤ s → s < ls.length → d.getD R[s]!.toNat 0 = 10060) ∧
      ρ 2 = .pointer (some ⟨H.size,0,none⟩) ∧ ρ 3 = .pointer (some ⟨H1.size,0,none⟩) ∧ ρ 5 = .slice (some ⟨H3.size,0,none⟩) ls.length ls.length ∧ ρ 17 = .slice (some ⟨ro,0,none⟩) ls.length ls.length ∧ ρ 18 = .int .i64 (ls.length:Int) ∧ ρ 19 = .int .i64 (k:Int))
    ⟨0,List.replicate ls.length 10060,rfl,Nat.zero_le _,cj,by simp,fun s hs => absurd hs (Nat.not_lt_zero s),fun s _ hs => ?_,rfl,rfl,rfl,rfl,rfl,rfl⟩ ?_
  · obtain ⟨j,h1,h2⟩:=tt.ok.val s hs;rw [h1,Int.toNat_natCast,List.getD_eq_getElem?_getD,List.getElem?_replicate,if_pos h2]; rfl
  clear cj u0 u2 f4 bs3 L4 e2 e1;rintro m ρ X ⟨k,d,rfl,hk,cj,hd,hdn,hfr,e2,e3,e5,e17,e18,e19⟩;have hLX:=cj.keep.low hL
  by_cases hlt:k < ls.length
  case neg =>
    have hlt':¬ (k:Int) < (ls.length:Int):=by omega
    have hp:PostCh ls ch fr at' H (.slice (some ⟨H3.size,0,none⟩) ls.length ls.length) X:=⟨_,d,rfl,cj.keep,cj.o3,n3,hd,fun j hj => by
      obtain ⟨s,h1,h2⟩:=tt.ok.all j hj;have h3:=hdn s (by omega) h1
      rw [h2,Int.toNat_natCast] at h3
      exact ⟨h3.1,h3.2.imp id fun h => ⟨h.1,by omega⟩⟩⟩
    clear hdn hfr cj tt hd
    repeat' (first | simp only [↓Zacc,↓Zabx,↓Zabz,↓Zacb,↓Zaai,↓Zaaj,↓Zabw,↓Zaby,↓Zacy,↓Zacx,↓Zacq,↓Zaak,↓Zacl,↓Zack,↓Zaci,↓Zacj,↓Zadd,↓Zaaw,↓Zaan,↓Zaav,↓Zaay,↓Zaao,↓bxOp_slice,↓Zaas,↓Zaat,↓Zaba,↓Zaau,↓Zada,↓bxPut,↓Zabu,↓Zabt,↓Zaaf,↓Zabm,↓Zabl,↓Zade,↓Zabi,↓Zabg,↓Zabh,Zacz,Zaae,Zabk,Zacd,Zacv,List.nil_append,↓reduceIte,Nat.reduceEqDiff,Nat.reduceLT,dec_F,Option.map_some,Option.map_none, *] | (with_reducible first | refine Zacf (by assumption) (by decide +kernel) ?_ | refine Zace (by decide +kernel) ?_ | refine Zaco (by decide +kernel) ?_ | refine Zach ?_))
  have hlt':(k:Int) < (ls.length:Int):=by omega
  have hob:=tt.ok.val k hlt;obtain ⟨j,hj,hjl⟩:=hob;have hwk:IntKind.i64.wrap ((k:Int) + 1) = ((k + 1:Nat):Int):=IntWalk.i64_in _ (by omega)
  have hixo:Zaaa Try.prog 25 (.slice (some ⟨ro,0,none⟩) ls.length ls.length) (.int .i64 (k:Int)) = some (.pointer (some ⟨ro,k,none⟩)):=by
    rw [ixIs,if_pos ⟨by omega,hlt'⟩,Int.toNat_natCast,Nat.mul_one,Nat.zero_add]
  have hRs:R.size = ls.length:=tt.ok.sz;have hRl:R.toList.length = ls.length:=by rw [Array.length_toList]; exact tt.ok.sz
  have hrdo:∀ {Z:Heap},Keep H Z → ∀ s,s < ls.length → Z.read ro s 1 = some [.int .i64 R[s]!]:=fun hz s hs => by
    rw [(tt.ord.keep hz).read (o:=s) (n:=1) (by simp; omega),← List.map_drop,← List.map_take,List.drop_eq_getElem_cons (by omega),getElem!_pos _ s (by omega)]
    rfl
  have rk:=hrdo cj.keep k hlt;rw [hj] at rk;have hob:=SlG_at (tt.legs.keep cj.keep) hjl;obtain ⟨q0,hix,hrd,_,_,_,_,_⟩:=hob;have hob:=drawn hLX (begins_runs hS fr to at' by' (ls.getD j default) (X.relow X.size))
  obtain ⟨Ya,Y,hKY,hLY,fY,fdY⟩:=hob;unfold wv at fY;have cy:=cj.more hKY;have rT:X.read H.size 0 1 = some [.slice a ls.length c]:=cj.o1.read (o:=0) (n:=1) (by simp)
  have rW:X.read H1.size 0 4 = some [.int .i64 fr,.int .i64 to,.int .i64 at',.int .i64 by']:=cj.o2.read (o:=0) (n:=4) (by simp)
  have hixl:∀ i:Nat,i < ls.length → Zaaa Try.prog 25 (.slice (some ⟨H3.size,0,none⟩) ls.length ls.length) (.int .i64 (i:Int)) = some (.pointer (some ⟨H3.size,i,none⟩)):=fun i hi => by
    rw [ixIs,if_pos ⟨by omega,by omega⟩,Int.toNat_natCast,Nat.mul_one,Nat.zero_add]
  have hixj:=hixl j hjl;have hfj:d.getD j 0 = 10060:=by have:=hfr k (Nat.le_refl _) hlt; rw [hj,Int.toNat_natCast] at this; exact this
  have hdj:∀ x:Int,(x = 0 ∨ x = 10060) → (x = 10060 ∨ (0 ≤ x ∧ x ≤ k)):=fun x hx => by omega
  by_cases hbg:(ls.getD j default).f = fr ∧ at' ≤ (ls.getD j default).d
  · rw [decide_eq_true hbg] at fY;have hob:=cy.set n1 n2 n3 (k:=j) (by omega) 0
    obtain ⟨W,stZ,cz⟩:=hob;have hcp:CP ls ch (BegB fr at') R 0 j ((d.set j 0).getD j 0):=by
      rw [set_same (by omega)]
      have h:CP ls ch (BegB fr at') R 0 j (@ite _ (BegB fr at' (ls.getD j default)) (Classical.propDecidable _) 0 10060):=@CP.start ls ch (BegB fr at') R j (Classical.propDecidable _);rw [if_pos (show BegB fr at' (ls.getD j default) from hbg)] at h; exact h
    have hoth:∀ i,i ≠ j → (d.set j 0).getD i 0 = d.getD i 0:=fun i h => set_other h
    have hlen1:(d.set j 0).length = ls.length:=by rw [List.length_set,hd]
    have hbd:=hdj ((d.set j 0).getD j 0) (.inl (set_same (by omega)))
    have hgw:∃ dw,dw = d.set j 0:=⟨_,rfl⟩;obtain ⟨dw,hdw⟩:=hgw;rw [← hdw] at cz hcp hoth hlen1 hbd;have rT2:W.read H.size 2 1 = some [.slice (some ⟨ro,0,none⟩) ls.length ls.length]:=cz.o1.read (o:=2) (n:=1) (by simp)
    have hsl:=headI (tt.ord.keep cz.keep) (p:=k) (n:=ls.length) (by omega) (by simp; omega)
    clear hbg cj cy hKY hfj hdj hdw
    repeat' (first | simp only [↓Zacc,↓Zabx,↓Zabz,↓Zacb,↓Zaai,↓Zaaj,↓Zabw,↓Zaby,↓Zacy,↓Zacx,↓Zacq,↓Zaak,↓Zacl,↓Zack,↓Zaci,↓Zacj,↓Zacp,↓Zadd,↓Zaaw,↓Zaan,↓Zaav,↓Zaay,↓Zaao,↓bxOp_slice,↓Zaas,↓Zaat,↓Zaba,↓Zaau,↓Zada,↓bxPut,↓Zabu,↓Zabt,↓Zaaf,↓Zabm,↓Zabl,↓Zade,↓Zabi,↓Zabg,↓Zabh,aSliceH_slice,Zacz,Zaae,Zabk,Zacd,Zacw,List.map_cons,List.map_nil,List.nil_append,List.append_nil,↓reduceIte,Nat.reduceEqDiff,Nat.reduceLT,dec_T,Zaab,Nat.add_zero,one1,Option.bind_some,Option.map_some,Option.map_none, *,ldC,ldLs,ldIs,ldG,ldW,faT0,faT2,lenIs,one1] | (with_reducible first | refine Zacf (by assumption) (by decide +kernel) ?_ | refine Zace (by decide +kernel) ?_ | refine Zaco (by decide +kernel) ?_ | refine Zach ?_))
    clear stZ rT2 hsl fY fdY rT rW hrd hix hixj rk hixo
    refine sxL_of (fun m ρ V => ∃ (s:Nat) (d2:List Int),m = k - s ∧ s ≤ k ∧ CJ H V H.size H1.size H3.size [.slice a ls.length c,.int .i64 ch,.slice (some ⟨ro,0,none⟩) ls.length ls.length] [.int .i64 fr,.int .i64 to,.int .i64 at',.int .i64 by'] d2 ∧ d2.length = ls.length ∧ (∀ i,i ≠ j → d2.getD i 0 = d.getD i 0) ∧ CP ls ch (BegB fr at') R s j (d2.getD j 0) ∧ (d2.getD j 0 = 10060 ∨ (0 ≤ d2.getD j 0 ∧ d2.getD j 0 ≤ k)) ∧
        ρ 2 = .pointer (some ⟨H.size,0,none⟩) ∧ ρ 3 = .pointer (some ⟨H1.size,0,none⟩) ∧ ρ 5 = .slice (some ⟨H3.size,0,none⟩) ls.length ls.length ∧ ρ 6 = .int .i64 (k:Int) ∧ ρ 7 = .int .i64 (j:Int) ∧ ρ 17 = .slice (some ⟨ro,0,none⟩) ls.length ls.length ∧ ρ 18 = .int .i64 (ls.length:Int) ∧ ρ 19 = .int .i64 (k:Int) ∧ ρ 37 = .slice (some ⟨ro,0,none⟩) k ls.length ∧ ρ 38 = .int .i64 (k:Int) ∧ ρ 39 = .int .i64 (s:Int))
      ⟨0,dw,rfl,Nat.zero_le _,cz,hlen1,hoth,hcp,hbd,e2,e3,e5,rfl,rfl,e17,e18,e19,rfl,rfl,rfl⟩ ?_
    clear e2 e3 e5 e17 e18 e19 hcp hlen1 hoth hbd ρ cz;rintro m ρ V ⟨s,d2,rfl,hs,cv,hd2,ho2,hcp2,hb2,e2,e3,e5,e6,e7,e17,e18,e19,e37,e38,e39⟩;have hLV:=cv.keep.low hL
    by_cases hlts:s < k
    case neg =>
      have hlts':¬ (s:Int) < (k:Int):=by omega
      have hsk:s = k:=Nat.le_antisymm hs (Nat.not_lt.1 hlts);rw [hsk] at hcp2;have hcw:=hcp2.done tt.ok tt.leg hlt hj hjl;have hne:∀ t,t ≠ k → t < ls.length → R[t]!.toNat ≠ j:=fun t h1 h2 h3 => by
        obtain ⟨j2,h4,_⟩:=tt.ok.val t h2;rw [h4,Int.toNat_natCast] at h3;subst h3;exact h1 (tt.ok.inj t k h2 hlt (by rw [h4,hj]))
      have hdn2:DoneC ls ch fr at' R (k + 1) d2:=fun t h1 h2 => by
        by_cases h3:t = k
        · subst h3;rw [hj,Int.toNat_natCast];exact ⟨hcw,hb2⟩
        · rw [ho2 _ (hne t h3 h2)];exact hdn t (by omega) h2
      have hfr2:∀ t,k + 1 ≤ t → t < ls.length → d2.getD R[t]!.toNat 0 = 10060:=fun t h1 h2 => by
        rw [ho2 _ (hne t (by omega) h2)]
        exact hfr t (by omega) h2
      clear hne hcw hcp2 ho2 hb2 hdn hfr hrdo hixl hsk tt
      repeat' (first | simp only [↓Zacc,↓Zabz,↓Zacb,↓Zaai,↓Zabw,↓Zaby,↓Zacy,↓Zacx,↓Zadd,↓Zaaw,↓Zaan,↓Zaav,↓Zaay,↓Zaao,↓Zaaz,↓Zaat,↓Zaba,↓bxOp_min,↓Zada,↓bxPut,↓Zabu,↓Zabt,↓Zaag,↓Zaaf,↓Zabm,↓Zabl,↓Zade,↓Zabi,↓Zabg,↓Zabh,Zacz,Zaae,Zabk,Zacd,Zacv,List.nil_append,↓reduceIte,Nat.reduceEqDiff,Nat.reduceLT,dec_F,true_and,ne_eq, *])
      --X1
      exact ⟨ls.length - (k + 1),by omega,k + 1,d2,rfl,by omega,cv,hd2,hdn2,hfr2,rfl⟩
    have hlts':(s:Int) < (k:Int):=by omega
    have hws:IntKind.i64.wrap ((s:Int) + 1) = ((s + 1:Nat):Int):=IntWalk.i64_in _ (by omega)
    have hob:=tt.ok.val s (by omega)
    obtain ⟨i,hi,hil⟩:=hob;have ris:=hrdo cv.keep s (by omega)
    rw [hi] at ris;have hixs:Zaaa Try.prog 25 (.slice (some ⟨ro,0,none⟩) k ls.length) (.int .i64 (s:Int)) = some (.pointer (some ⟨ro,s,none⟩)):=by
      rw [ixIs,if_pos ⟨by omega,hlts'⟩,Int.toNat_natCast,Nat.mul_one,Nat.zero_add]
    have rT3:V.read H.size 0 3 = some [.slice a ls.length c,.int .i64 ch,.slice (some ⟨ro,0,none⟩) ls.length ls.length]:=cv.o1.read (o:=0) (n:=3) (by simp)
    have hob:=follows_runs hS ls a c r o ch (.slice (some ⟨ro,0,none⟩) ls.length ls.length) V hLV (tt.legs.keep cv.keep) i j hil hjl (tt.fit i hil);obtain ⟨V2,k2,R2⟩:=hob;have f2:=R2.bx;unfold tv at f2;have c2:=cv.more k2
    by_cases hjn:jn ls ch i j
    case neg =>
      have hjb:joinB ch (ls.getD i default) (ls.getD j default) = false:=by
        unfold jn at hjn; exact Bool.eq_false_iff.2 hjn
      rw [hjb] at f2;have hcp3:=hcp2.no hi hjn;clear hjn hjb hcp2 R2 k2 cv hdn hfr hrdo hixl tt
      repeat' (first | simp only [↓Zacc,↓Zabz,↓Zacb,↓Zaai,↓Zabw,↓Zaby,↓Zacy,↓Zacx,↓Zadd,↓Zaaw,↓Zaan,↓Zaav,↓Zaay,↓Zaao,↓Zaaz,↓Zaat,↓Zaba,↓bxOp_min,↓Zada,↓bxPut,↓Zabu,↓Zabt,↓Zaag,↓Zaaf,↓Zabm,↓Zabl,↓Zade,↓Zabi,↓Zabg,↓Zabh,Zacz,Zaae,Zabk,una_nf,Zacd,Zacw,List.map_cons,List.map_nil,List.nil_append,List.append_nil,↓reduceIte,Nat.reduceEqDiff,Nat.reduceLT,dec_T,true_and,one1,Option.bind_some,ne_eq,Option.map_some, *,ldC,ldTt,one1])
      exact ⟨k - (s + 1),by omega,s + 1,d2,rfl,by omega,c2,hd2,ho2,hcp3,hb2,rfl⟩
    have hjb:joinB ch (ls.getD i default) (ls.getD j default) = true:=hjn;rw [hjb] at f2;have hij:i ≠ j:=fun h => by
      have h1:=jn.dep tt.leg hil hjn;rw [h] at h1;omega
    have hdi:=hdn s hlts (by omega)
    rw [hi,Int.toNat_natCast] at hdi;have hob:=isChange_runs hS ls a c r o ch (.slice (some ⟨ro,0,none⟩) ls.length ls.length) V2 (k2.low hLV) (tt.legs.keep c2.keep) i j hil hjl;obtain ⟨V3,k3,R3⟩:=hob;have f3:=R3.bx;unfold tv at f3;have c3:=c2.more k3;have rl2:=c2.rd (k:=i) (by omega)
    rw [ho2 i hij] at rl2;have rl3:=c3.rd (k:=j) (by omega)
    have rT4:V2.read H.size 0 3 = some [.slice a ls.length c,.int .i64 ch,.slice (some ⟨ro,0,none⟩) ls.length ls.length]:=c2.o1.read (o:=0) (n:=3) (by simp)
    have hxi:=hixl i hil;have hxj:=hixl j hjl;have hcy:=hcp2.yes hi hil hjn hdi.1 (by omega)
    have hch1:=chg1_le ls i j;have hnn:0 ≤ d.getD i 0:=by omega
    have hgv:∃ z,z = min (d2.getD j 0) (d.getD i 0 + (chg1 ls i j:Nat)):=⟨_,rfl⟩;obtain ⟨z,hz⟩:=hgv;rw [← hz] at hcy;have hbz:z = 10060 ∨ (0 ≤ z ∧ z ≤ k):=by omega
    have hob:=c3.set n1 n2 n3 (k:=j) (by omega) z
    obtain ⟨V4,st4,c4⟩:=hob;have ho4:∀ i,i ≠ j → (d2.set j z).getD i 0 = d.getD i 0:=fun i h => (set_other h).trans (ho2 i h)
    have hd4:(d2.set j z).length = ls.length:=by rw [List.length_set,hd2]
    have hs4:(d2.set j z).getD j 0 = z:=set_same (by omega)
    rw [← hs4] at hcy hbz;have hgd:∃ d4,d4 = d2.set j z:=⟨_,rfl⟩;obtain ⟨d4,hd4'⟩:=hgd;rw [← hd4'] at hcy hbz ho4 hd4 c4;have hgx:∃ x,x = d.getD i 0:=⟨_,rfl⟩;obtain ⟨x,hx⟩:=hgx;have hgy:∃ y,y = d2.getD j 0:=⟨_,rfl⟩;obtain ⟨y,hy⟩:=hgy;rw [← hx] at rl2 hz hdi hnn;rw [← hy] at rl3 hz hb2
    by_cases hln:(ls.getD i default).l = (ls.getD j default).l
    · rw [decide_eq_false (not_not_intro hln)] at f3;have hc1:chg1 ls i j = 0:=if_pos hln;rw [hc1] at hz;have hzm:(if x < y then x else y) = z:=by rw [hz]; split <;> omega
      clear hjn hjb hcp2 R2 R3 k2 k3 cv c2 c3 hdn hfr hrdo hixl tt hij hdi hs4 hd4' hx hy hz hln hc1 hch1 hnn ho2 hb2
      repeat' (first | simp only [↓Zacc,↓Zabz,↓Zacb,↓Zaai,↓Zabw,↓Zaby,↓Zacy,↓Zacx,↓Zadd,↓Zaaw,↓Zaan,↓Zaav,↓Zaay,↓Zaao,↓Zaaz,↓Zaat,↓Zaba,↓bxOp_min,↓Zada,↓bxPut,↓Zabu,↓Zabt,↓Zaag,↓Zaaf,↓Zabm,↓Zabl,↓Zade,↓Zabi,↓Zabg,↓Zabh,Zacz,mm_min,Zaae,Zabk,una_nt,Zacd,Zacw,Zacv,List.map_cons,List.map_nil,List.nil_append,List.append_nil,↓reduceIte,Nat.reduceEqDiff,Nat.reduceLT,dec_T,true_and,one1,Option.bind_some,ne_eq,Option.map_some, *,ldC,ldTt,one1])
      --V1
      exact ⟨k - (s + 1),by omega,s + 1,d4,rfl,by omega,c4,hd4,ho4,hcy,hbz,rfl⟩
    · rw [decide_eq_true hln] at f3;have hc1:chg1 ls i j = 1:=if_neg hln;rw [hc1] at hz;have hwx:IntKind.i64.wrap (x + 1) = x + 1:=IntWalk.i64_in _ (by omega)
      have hzm:(if x + 1 < y then x + 1 else y) = z:=by rw [hz]; split <;> omega
      clear hjn hjb hcp2 R2 R3 k2 k3 cv c2 c3 hdn hfr hrdo hixl tt hij hdi hs4 hd4' hx hy hz hln hc1 hch1 hnn ho2 hb2
      repeat' (first | simp only [↓Zacc,↓Zabz,↓Zacb,↓Zaai,↓Zabw,↓Zaby,↓Zacy,↓Zacx,↓Zadd,↓Zaaw,↓Zaan,↓Zaav,↓Zaay,↓Zaao,↓Zaaz,↓Zaat,↓Zaba,↓bxOp_min,↓Zada,↓bxPut,↓Zabu,↓Zabt,↓Zaag,↓Zaaf,↓Zabm,↓Zabl,↓Zade,↓Zabi,↓Zabg,↓Zabh,Zacz,mm_min,Zaae,Zabk,una_nt,Zacd,Zacw,Zacv,List.map_cons,List.map_nil,List.nil_append,List.append_nil,↓reduceIte,Nat.reduceEqDiff,Nat.reduceLT,dec_T,true_and,one1,Option.bind_some,ne_eq,Option.map_some, *,ldC,ldTt,one1])
      --W1
      exact ⟨k - (s + 1),by omega,s + 1,d4,rfl,by omega,c4,hd4,ho4,hcy,hbz,rfl⟩
  · rw [decide_eq_false hbg] at fY;have hcp:CP ls ch (BegB fr at') R 0 j (d.getD j 0):=by
      rw [hfj];have h:CP ls ch (BegB fr at') R 0 j (@ite _ (BegB fr at' (ls.getD j default)) (Classical.propDecidable _) 0 10060):=@CP.start ls ch (BegB fr at') R j (Classical.propDecidable _);rw [if_neg (show ¬ BegB fr at' (ls.getD j default) from hbg)] at h; exact h
    have hoth:∀ i,i ≠ j → d.getD i 0 = d.getD i 0:=fun i h => rfl
    have hlen1:=hd;have hbd:=hdj (d.getD j 0) (.inr hfj);have rT2:Y.read H.size 2 1 = some [.slice (some ⟨ro,0,none⟩) ls.length ls.length]:=cy.o1.read (o:=2) (n:=1) (by simp)
    have hsl:=headI (tt.ord.keep cy.keep) (p:=k) (n:=ls.length) (by omega) (by simp; omega)
    clear hbg cj hKY hfj hdj
    repeat' (first | simp only [↓Zacc,↓Zabx,↓Zabz,↓Zacb,↓Zaai,↓Zaaj,↓Zabw,↓Zaby,↓Zacy,↓Zacx,↓Zacq,↓Zaak,↓Zacl,↓Zack,↓Zaci,↓Zacj,↓Zacp,↓Zadd,↓Zaaw,↓Zaan,↓Zaav,↓Zaay,↓Zaao,↓bxOp_slice,↓Zaas,↓Zaat,↓Zaba,↓Zaau,↓Zada,↓bxPut,↓Zabu,↓Zabt,↓Zaaf,↓Zabm,↓Zabl,↓Zade,↓Zabi,↓Zabg,↓Zabh,aSliceH_slice,Zacz,Zaae,Zabk,Zacd,Zacw,Zacv,List.map_cons,List.map_nil,List.nil_append,List.append_nil,↓reduceIte,Nat.reduceEqDiff,Nat.reduceLT,dec_T,Zaab,Nat.add_zero,one1,Option.bind_some,Option.map_some,Option.map_none, *,ldC,ldLs,ldIs,ldG,ldW,faT0,faT2,lenIs,one1] | (with_reducible first | refine Zacf (by assumption) (by decide +kernel) ?_ | refine Zace (by decide +kernel) ?_ | refine Zaco (by decide +kernel) ?_ | refine Zach ?_))
    clear rT2 hsl fY fdY rT rW hrd hix hixj rk hixo
    refine sxL_of (fun m ρ V => ∃ (s:Nat) (d2:List Int),m = k - s ∧ s ≤ k ∧ CJ H V H.size H1.size H3.size [.slice a ls.length c,.int .i64 ch,.slice (some ⟨ro,0,none⟩) ls.length ls.length] [.int .i64 fr,.int .i64 to,.int .i64 at',.int .i64 by'] d2 ∧ d2.length = ls.length ∧ (∀ i,i ≠ j → d2.getD i 0 = d.getD i 0) ∧ CP ls ch (BegB fr at') R s j (d2.getD j 0) ∧ (d2.getD j 0 = 10060 ∨ (0 ≤ d2.getD j 0 ∧ d2.getD j 0 ≤ k)) ∧
        ρ 2 = .pointer (some ⟨H.size,0,none⟩) ∧ ρ 3 = .pointer (some ⟨H1.size,0,none⟩) ∧ ρ 5 = .slice (some ⟨H3.size,0,none⟩) ls.length ls.length ∧ ρ 6 = .int .i64 (k:Int) ∧ ρ 7 = .int .i64 (j:Int) ∧ ρ 17 = .slice (some ⟨ro,0,none⟩) ls.length ls.length ∧ ρ 18 = .int .i64 (ls.length:Int) ∧ ρ 19 = .int .i64 (k:Int) ∧ ρ 37 = .slice (some ⟨ro,0,none⟩) k ls.length ∧ ρ 38 = .int .i64 (k:Int) ∧ ρ 39 = .int .i64 (s:Int))
      ⟨0,d,rfl,Nat.zero_le _,cy,hlen1,hoth,hcp,hbd,e2,e3,e5,rfl,rfl,e17,e18,e19,rfl,rfl,rfl⟩ ?_
    clear e2 e3 e5 e17 e18 e19 hcp hlen1 hoth hbd ρ cy;rintro m ρ V ⟨s,d2,rfl,hs,cv,hd2,ho2,hcp2,hb2,e2,e3,e5,e6,e7,e17,e18,e19,e37,e38,e39⟩;have hLV:=cv.keep.low hL
    by_cases hlts:s < k
    case neg =>
      have hlts':¬ (s:Int) < (k:Int):=by omega
      have hsk:s = k:=Nat.le_antisymm hs (Nat.not_lt.1 hlts);rw [hsk] at hcp2;have hcw:=hcp2.done tt.ok tt.leg hlt hj hjl;have hne:∀ t,t ≠ k → t < ls.length → R[t]!.toNat ≠ j:=fun t h1 h2 h3 => by
        obtain ⟨j2,h4,_⟩:=tt.ok.val t h2;rw [h4,Int.toNat_natCast] at h3;subst h3;exact h1 (tt.ok.inj t k h2 hlt (by rw [h4,hj]))
      have hdn2:DoneC ls ch fr at' R (k + 1) d2:=fun t h1 h2 => by
        by_cases h3:t = k
        · subst h3;rw [hj,Int.toNat_natCast];exact ⟨hcw,hb2⟩
        · rw [ho2 _ (hne t h3 h2)];exact hdn t (by omega) h2
      have hfr2:∀ t,k + 1 ≤ t → t < ls.length → d2.getD R[t]!.toNat 0 = 10060:=fun t h1 h2 => by
        rw [ho2 _ (hne t (by omega) h2)]
        exact hfr t (by omega) h2
      clear hne hcw hcp2 ho2 hb2 hdn hfr hrdo hixl hsk tt
      repeat' (first | simp only [↓Zacc,↓Zabz,↓Zacb,↓Zaai,↓Zabw,↓Zaby,↓Zacy,↓Zacx,↓Zadd,↓Zaaw,↓Zaan,↓Zaav,↓Zaay,↓Zaao,↓Zaaz,↓Zaat,↓Zaba,↓bxOp_min,↓Zada,↓bxPut,↓Zabu,↓Zabt,↓Zaag,↓Zaaf,↓Zabm,↓Zabl,↓Zade,↓Zabi,↓Zabg,↓Zabh,Zacz,Zaae,Zabk,Zacd,Zacv,List.nil_append,↓reduceIte,Nat.reduceEqDiff,Nat.reduceLT,dec_F,true_and,ne_eq, *])
      --X2
      exact ⟨ls.length - (k + 1),by omega,k + 1,d2,rfl,by omega,cv,hd2,hdn2,hfr2,rfl⟩
    have hlts':(s:Int) < (k:Int):=by omega
    have hws:IntKind.i64.wrap ((s:Int) + 1) = ((s + 1:Nat):Int):=IntWalk.i64_in _ (by omega)
    have hob:=tt.ok.val s (by omega)
    obtain ⟨i,hi,hil⟩:=hob;have ris:=hrdo cv.keep s (by omega)
    rw [hi] at ris;have hixs:Zaaa Try.prog 25 (.slice (some ⟨ro,0,none⟩) k ls.length) (.int .i64 (s:Int)) = some (.pointer (some ⟨ro,s,none⟩)):=by
      rw [ixIs,if_pos ⟨by omega,hlts'⟩,Int.toNat_natCast,Nat.mul_one,Nat.zero_add]
    have rT3:V.read H.size 0 3 = some [.slice a ls.length c,.int .i64 ch,.slice (some ⟨ro,0,none⟩) ls.length ls.length]:=cv.o1.read (o:=0) (n:=3) (by simp)
    have hob:=follows_runs hS ls a c r o ch (.slice (some ⟨ro,0,none⟩) ls.length ls.length) V hLV (tt.legs.keep cv.keep) i j hil hjl (tt.fit i hil);obtain ⟨V2,k2,R2⟩:=hob;have f2:=R2.bx;unfold tv at f2;have c2:=cv.more k2
    by_cases hjn:jn ls ch i j
    case neg =>
      have hjb:joinB ch (ls.getD i default) (ls.getD j default) = false:=by
        unfold jn at hjn; exact Bool.eq_false_iff.2 hjn
      rw [hjb] at f2;have hcp3:=hcp2.no hi hjn;clear hjn hjb hcp2 R2 k2 cv hdn hfr hrdo hixl tt
      repeat' (first | simp only [↓Zacc,↓Zabz,↓Zacb,↓Zaai,↓Zabw,↓Zaby,↓Zacy,↓Zacx,↓Zadd,↓Zaaw,↓Zaan,↓Zaav,↓Zaay,↓Zaao,↓Zaaz,↓Zaat,↓Zaba,↓bxOp_min,↓Zada,↓bxPut,↓Zabu,↓Zabt,↓Zaag,↓Zaaf,↓Zabm,↓Zabl,↓Zade,↓Zabi,↓Zabg,↓Zabh,Zacz,Zaae,Zabk,una_nf,Zacd,Zacw,List.map_cons,List.map_nil,List.nil_append,List.append_nil,↓reduceIte,Nat.reduceEqDiff,Nat.reduceLT,dec_T,true_and,one1,Option.bind_some,ne_eq,Option.map_some, *,ldC,ldTt,one1])
      exact ⟨k - (s + 1),by omega,s + 1,d2,rfl,by omega,c2,hd2,ho2,hcp3,hb2,rfl⟩
    have hjb:joinB ch (ls.getD i default) (ls.getD j default) = true:=hjn;rw [hjb] at f2;have hij:i ≠ j:=fun h => by
      have h1:=jn.dep tt.leg hil hjn;rw [h] at h1;omega
    have hdi:=hdn s hlts (by omega)
    rw [hi,Int.toNat_natCast] at hdi;have hob:=isChange_runs hS ls a c r o ch (.slice (some ⟨ro,0,none⟩) ls.length ls.length) V2 (k2.low hLV) (tt.legs.keep c2.keep) i j hil hjl;obtain ⟨V3,k3,R3⟩:=hob;have f3:=R3.bx;unfold tv at f3;have c3:=c2.more k3;have rl2:=c2.rd (k:=i) (by omega)
    rw [ho2 i hij] at rl2;have rl3:=c3.rd (k:=j) (by omega)
    have rT4:V2.read H.size 0 3 = some [.slice a ls.length c,.int .i64 ch,.slice (some ⟨ro,0,none⟩) ls.length ls.length]:=c2.o1.read (o:=0) (n:=3) (by simp)
    have hxi:=hixl i hil;have hxj:=hixl j hjl;have hcy:=hcp2.yes hi hil hjn hdi.1 (by omega)
    have hch1:=chg1_le ls i j;have hnn:0 ≤ d.getD i 0:=by omega
    have hgv:∃ z,z = min (d2.getD j 0) (d.getD i 0 + (chg1 ls i j:Nat)):=⟨_,rfl⟩;obtain ⟨z,hz⟩:=hgv;rw [← hz] at hcy;have hbz:z = 10060 ∨ (0 ≤ z ∧ z ≤ k):=by omega
    have hob:=c3.set n1 n2 n3 (k:=j) (by omega) z
    obtain ⟨V4,st4,c4⟩:=hob;have ho4:∀ i,i ≠ j → (d2.set j z).getD i 0 = d.getD i 0:=fun i h => (set_other h).trans (ho2 i h)
    have hd4:(d2.set j z).length = ls.length:=by rw [List.length_set,hd2]
    have hs4:(d2.set j z).getD j 0 = z:=set_same (by omega)
    rw [← hs4] at hcy hbz;have hgd:∃ d4,d4 = d2.set j z:=⟨_,rfl⟩;obtain ⟨d4,hd4'⟩:=hgd;rw [← hd4'] at hcy hbz ho4 hd4 c4;have hgx:∃ x,x = d.getD i 0:=⟨_,rfl⟩;obtain ⟨x,hx⟩:=hgx;have hgy:∃ y,y = d2.getD j 0:=⟨_,rfl⟩;obtain ⟨y,hy⟩:=hgy;rw [← hx] at rl2 hz hdi hnn;rw [← hy] at rl3 hz hb2
    by_cases hln:(ls.getD i default).l = (ls.getD j default).l
    · rw [decide_eq_false (not_not_intro hln)] at f3;have hc1:chg1 ls i j = 0:=if_pos hln;rw [hc1] at hz;have hzm:(if x < y then x else y) = z:=by rw [hz]; split <;> omega
      clear hjn hjb hcp2 R2 R3 k2 k3 cv c2 c3 hdn hfr hrdo hixl tt hij hdi hs4 hd4' hx hy hz hln hc1 hch1 hnn ho2 hb2
      repeat' (first | simp only [↓Zacc,↓Zabz,↓Zacb,↓Zaai,↓Zabw,↓Zaby,↓Zacy,↓Zacx,↓Zadd,↓Zaaw,↓Zaan,↓Zaav,↓Zaay,↓Zaao,↓Zaaz,↓Zaat,↓Zaba,↓bxOp_min,↓Zada,↓bxPut,↓Zabu,↓Zabt,↓Zaag,↓Zaaf,↓Zabm,↓Zabl,↓Zade,↓Zabi,↓Zabg,↓Zabh,Zacz,mm_min,Zaae,Zabk,una_nt,Zacd,Zacw,Zacv,List.map_cons,List.map_nil,List.nil_append,List.append_nil,↓reduceIte,Nat.reduceEqDiff,Nat.reduceLT,dec_T,true_and,one1,Option.bind_some,ne_eq,Option.map_some, *,ldC,ldTt,one1])
      --V2
      exact ⟨k - (s + 1),by omega,s + 1,d4,rfl,by omega,c4,hd4,ho4,hcy,hbz,rfl⟩
    · rw [decide_eq_true hln] at f3;have hc1:chg1 ls i j = 1:=if_neg hln;rw [hc1] at hz;have hwx:IntKind.i64.wrap (x + 1) = x + 1:=IntWalk.i64_in _ (by omega)
      have hzm:(if x + 1 < y then x + 1 else y) = z:=by rw [hz]; split <;> omega
      clear hjn hjb hcp2 R2 R3 k2 k3 cv c2 c3 hdn hfr hrdo hixl tt hij hdi hs4 hd4' hx hy hz hln hc1 hch1 hnn ho2 hb2
      repeat' (first | simp only [↓Zacc,↓Zabz,↓Zacb,↓Zaai,↓Zabw,↓Zaby,↓Zacy,↓Zacx,↓Zadd,↓Zaaw,↓Zaan,↓Zaav,↓Zaay,↓Zaao,↓Zaaz,↓Zaat,↓Zaba,↓bxOp_min,↓Zada,↓bxPut,↓Zabu,↓Zabt,↓Zaag,↓Zaaf,↓Zabm,↓Zabl,↓Zade,↓Zabi,↓Zabg,↓Zabh,Zacz,mm_min,Zaae,Zabk,una_nt,Zacd,Zacw,Zacv,List.map_cons,List.map_nil,List.nil_append,List.append_nil,↓reduceIte,Nat.reduceEqDiff,Nat.reduceLT,dec_T,true_and,one1,Option.bind_some,ne_eq,Option.map_some, *,ldC,ldTt,one1])
      --W2
      exact ⟨k - (s + 1),by omega,s + 1,d4,rfl,by omega,c4,hd4,ho4,hcy,hbz,rfl⟩
end Go.Proofs.Yteechkbnccpicaa
