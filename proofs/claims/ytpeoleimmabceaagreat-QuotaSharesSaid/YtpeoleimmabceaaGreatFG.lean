/- The law QuotaShares on the canonical machine. -/
import Derived.Test.YtpeoleimmabceaaGreatFF
set_option linter.unusedVariables false
set_option linter.unusedSimpArgs false
set_option linter.unusedSectionVars false

namespace Go.Proofs.YtpeoleimmabceaaGreat
open Go Go.AM
set_option maxRecDepth 10000

theorem bs0 (H:Heap):aBuildSlice Tryz.prog H 22 0 [] = some (.slice (some ⟨H.size,0,none⟩) 0 0,H.newExact [] 3):=by kernel_rfl

variable {S:AM.Sys} (hS:Only S 5)
include hS

set_option maxHeartbeats 8000000 in
theorem lawShares_runs (rule e:Int) (v:Value) (c:List Int) (r o:Nat) (H:Heap) (hg:Grp H) (hL:H.low ≤ H.size) (hl:SlI .i64 H v c r o) (h0:Plain0 v) (hO:∀ H',S.O 5 [] H') :
    ∃ H',Runs Tryz.prog S (.fn 3) [.int .i64 rule,.int .i64 e,v] H (.bool true) H':=by
  suffices h:WCall Tryz.prog S (.fn 3) [.int .i64 rule,.int .i64 e,v] H (fun v H' => v = .bool true) by
    obtain ⟨_,H',hr,rfl⟩:=h; exact ⟨H',hr⟩
  have hk1:∀ (H':Heap) (K:Value → Heap → Prop) (b:Blk K),sxCallB Tryz.prog S (.fn 5) [] H' K b = K (.bool true) H':=fun H' K b => known_bx (hO H')
  clear hO;have hv:=hl.v0;obtain ⟨va,vc,rfl⟩:=hv;have f0:=(few_runs hS va c.length vc H).bx
  by_cases h40:(c.length:Int) ≤ 40
  case neg =>
    rw [decide_eq_false h40] at f0;clear hl h40 h0;refine Zaaw Tryz.func3 rfl (Nat.le_of_ble_eq_true rfl) (hS.no rfl _ _) ?_
    rw [Tryz.ntmps3,Tryz.results3]
    repeat' (first | simp only [↓Zabs,↓Zabp,↓Zabr,↓Zaae,↓Zaaf,↓Zabm,↓Zabq,↓Zacj,↓Zaci,↓Zaco,↓Zaav,↓Zaaq,↓Zaaj,↓Zaar,↓Zaah,↓Zaal,↓Zaas,↓bxOp_un,↓bxOp_extract,↓Zaat,↓Zaai,↓Zacl,↓bxPut,↓Zabk,↓Zabl,↓Zabi,↓Zacm,↓Zacn,↓Zacp,↓Zaba,↓Zaay,↓Zaaz,↓dstAt,↓Zabc,Zack,una_nf,Zabt,Zach,Zabg,List.map_cons,List.map_nil,List.nil_append,List.append_nil,↓reduceIte,Nat.reduceEqDiff,Nat.reduceLT, *,argF,List.getD_cons_zero,List.getD_cons_succ])
  rw [decide_eq_true h40] at f0;have b1:=bs0 H;obtain ⟨H1,e1⟩:∃ H1,H1 = H.newExact [] 3:=⟨_,rfl⟩;have k1:Keep H H1:=by rw [e1]; exact Keep.newExact _ _ _
  have o1:Own H1 H.size 3 []:=by rw [e1]; exact Own.new _ _ _
  rw [← e1] at b1;have hob:=(hl.keep k1).first (show 0 < (intE .i64).sz by decide) h0
  obtain ⟨cells,hch,hfst,hlen⟩:=hob;have hob:=Own.put0 (P:=Tryz.prog) (ts:=#[22,22]) (E:=intE .i64) (L:=H.size) okI1 (k1.grp hg) o1 (Nat.le_refl _) k1.size hlen hfst rfl hch (by omega)
  obtain ⟨v2,H2,ap2,l2,_,k2⟩:=hob;have hv2:=l2.isv;obtain ⟨a2,rfl⟩:=hv2;have hob:=l2.sl hl.ml;obtain ⟨r2,s2,_⟩:=hob;have K2:=k1.trans k2;have hob:=rShareU hS rule e _ c r o H2 (K2.grp hg) (K2.low hL) (hl.keep K2);obtain ⟨ya,yc,wy,zy,fy,ry,oy,H3,k3,hu,sy,R3⟩:=hob;have f3:=R3.bx;have K3:=K2.trans k3;have ex0:∀ x y:Value,aExtract (.tuple ⟨[x,y]⟩) 0 = some x:=fun x y => by kernel_rfl
  have ex1:∀ x y:Value,aExtract (.tuple ⟨[x,y]⟩) 1 = some y:=fun x y => by kernel_rfl
  have hob:=box1 H3 [.slice none 0 0,.int .i64 0] 26;obtain ⟨H4,e4,k4,z4,-,-⟩:=hob;have ow4:Own H4 H3.size 26 [.slice none 0 0,.int .i64 0]:=e4 ▸ Own.new H3 _ _;have al4:aAlloc Tryz.prog H3 26 = some (.pointer (some ⟨H3.size,0,none⟩),H4):=by rw [alP,e4]
  have hob:=stPX ow4 rfl ya wy.length yc zy k4 (Nat.le_refl _);obtain ⟨H5,st5,o5,_,_,k35⟩:=hob;have K5:=K3.trans k35;have l5:=hl.keep K5;have s25:=(s2.keep k3).keep k35;have sy5:=sy.keep k35;have g5:=K5.grp hg;have lo5:=K5.low hL;refine Zaaw Tryz.func3 rfl (Nat.le_of_ble_eq_true rfl) (hS.no rfl _ _) ?_
  rw [Tryz.ntmps3,Tryz.results3];clear e1 k1 o1 hch hfst hlen l2 s2 k2 K2 R3 k3 sy K3 e4 k4 z4 ow4 k35 hl h40
  repeat' (first | simp only [↓Zabs,↓Zabp,↓Zabr,↓Zaae,↓Zaaf,↓Zabm,↓Zabq,↓Zacj,↓Zaci,↓Zaco,↓Zaav,↓Zaaq,↓Zaaj,↓Zaar,↓Zaah,↓Zaal,↓Zaas,↓bxOp_un,↓bxOp_extract,↓Zaat,↓Zaai,↓Zacl,↓bxPut,↓Zabk,↓Zabl,↓Zabi,↓Zacm,↓Zacn,↓Zacp,↓Zaba,↓Zaay,↓Zaaz,↓dstAt,↓Zabc,Zack,una_nt,Zabt,Zacg,Zabg,List.map_cons,List.map_nil,List.nil_append,List.append_nil,↓reduceIte,Nat.reduceEqDiff,Nat.reduceLT, *,argF,List.getD_cons_zero,List.getD_cons_succ])
  clear f0 b1 ap2 f3 al4 st5;refine sxL_of (fun m ρ X => ∃ t:Nat,m = 2 - t ∧ t ≤ 2 ∧ Keep H5 X ∧ ρ 0 = .int .i64 rule ∧ ρ 1 = .int .i64 e ∧ ρ 2 = .slice va c.length vc ∧ ρ 7 = .slice a2 c.length c.length ∧ ρ 8 = .pointer (some ⟨H3.size,0,none⟩) ∧ ρ 9 = .int .i64 fy ∧ ρ 10 = .int .i64 (t:Int))
    ⟨0,rfl,Nat.zero_le _,Keep.refl _,rfl,rfl,rfl,rfl,rfl,rfl,rfl⟩ ?_
  rintro m ρ X ⟨t,rfl,ht,kX,e0,e1,e2,e7,e8,e9,e10⟩;have loX:=kX.low lo5
  by_cases hlt:t < 2
  case neg =>
    have hlt':¬ (t:Int) < 2:=by omega
    have hob:=(sameG_runs hS _ _ c c r2 0 r o X loX (s25.keep kX) (l5.keep kX)).bx;have ds:decide (c = c) = true:=decide_eq_true rfl;rw [ds] at hob;clear hu sy5 o5 l5 s25 kX ds hlt
    repeat' (first | simp only [↓Zabs,↓Zabp,↓Zabr,↓Zaae,↓Zaaf,↓Zabm,↓Zabo,↓Zabq,↓Zacj,↓Zaci,↓Zaco,↓Zaav,↓Zaaq,↓Zaaj,↓Zaar,↓Zaah,↓Zaap,↓Zaas,↓Zaak,↓bxOp_un,↓bxOp_extract,↓Zaat,↓Zacl,↓bxPut,↓Zabk,↓Zabj,↓Zabl,↓blockQ_ret,↓Zaac,↓Zabf,↓Zabe,↓loopQ_ret,↓Zabi,↓Zacm,↓Zacn,↓Zacp,↓Zaba,↓Zaay,↓Zaaz,↓dstAt,↓Zabc,Zack,Zaab,Zabd,aPick_true,Zabt,sxGuardB_tt,Zacg,Zabg,List.map_cons,List.map_nil,List.nil_append,List.append_nil,↓reduceIte,Nat.reduceEqDiff,Nat.reduceLT,dec_F, *])
  have hlt':(t:Int) < 2:=by omega
  have hw:IntKind.i64.wrap ((t:Int) + 1) = ((t + 1:Nat):Int):=IntWalk.i64_in _ (by omega)
  have gX:=kX.grp g5;have hob:=ShareU hS rule e _ c r2 0 X gX loX (s25.keep kX);obtain ⟨xa,xc,wx,zx,fx,rx,H6,k6,hres,sx,hox,R6⟩:=hob;have f6:=R6.bx;have hob:=hu wx zx fx hres;obtain ⟨q1,q2,q3⟩:=hob;have hob:=box1 H6 [.slice none 0 0,.int .i64 0] 26;obtain ⟨H7,e7',k7,z7,-,-⟩:=hob;have ow7:Own H7 H6.size 26 [.slice none 0 0,.int .i64 0]:=e7' ▸ Own.new H6 _ _;have al7:aAlloc Tryz.prog H6 26 = some (.pointer (some ⟨H6.size,0,none⟩),H7):=by rw [alP,e7']
  have hob:=stPX ow7 rfl xa wx.length xc zx k7 (Nat.le_refl _);obtain ⟨H8,st8,o8,_,_,k68⟩:=hob;have k8:=(kX.trans k6).trans k68;have o58:=o5.keep k8;have rd8:=(ownP o8).1;have rd58:=(ownP o58).1;have lo8:=k8.low lo5;have hob:=cpartsG_runs hS _ _ wx wy zx zy rx 0 ry oy H8 lo8 (sx.keep k68) (sy5.keep k8);obtain ⟨H9,k9,R9⟩:=hob;have f9:=R9.bx;subst q1 q2 q3;have dq:decide (zy = zy ∧ wy = wy) = true:=decide_eq_true ⟨rfl,rfl⟩;rw [dq] at f9;have df:decide (¬ fy = fy) = false:=decide_eq_false fun h => h rfl
  have k59:=k8.trans k9;have o89:=o8.keep k9;have hox9:0 < wy.length → xa = some ⟨rx,0,none⟩ ∧ xc = wy.length ∧ H5.size ≤ rx ∧ rx ≠ H6.size ∧ Own H9 rx 3 (wy.map fun z => .int .i64 z):=fun h => by
    obtain ⟨h1,h2,h3,h4⟩:=hox h;have:=h4.lt;exact ⟨h1,h2,Nat.le_trans kX.size h3,by omega,(h4.keep k68).keep k9⟩
  have hmlw:=sx.ml;clear R6 hres hu sx hox R9 dq e7' k7 z7 ow7 k68 k8 o58 o8 k6 gX sy5 o5 l5 s25 kX hlt k9
  repeat' (first | simp only [↓Zabs,↓Zabp,↓Zabr,↓Zaae,↓Zaaf,↓Zabm,↓Zabo,↓Zabq,↓Zacj,↓Zaci,↓Zaco,↓Zaav,↓Zaaq,↓Zaaj,↓Zaar,↓Zaah,↓Zaap,↓Zaas,↓Zaak,↓bxOp_un,↓bxOp_extract,↓Zaat,↓Zacl,↓bxPut,↓Zabk,↓Zabj,↓Zabl,↓blockQ_ret,↓Zaac,↓Zabf,↓Zabe,↓loopQ_ret,↓Zabi,↓Zacm,↓Zacn,↓Zacp,↓Zaba,↓Zaay,↓Zaaz,↓dstAt,↓Zabc,Zack,Zaab,Zabd,una_nt,aPick_false,Zabt,sxGuardB_ff,Zach,Zacg,Zabg,List.map_cons,List.map_nil,List.nil_append,List.append_nil,↓reduceIte,Nat.reduceEqDiff,Nat.reduceLT,dec_T,dec_F,not_true_eq_false,Option.map_some, *,ldP])
  clear f6 f9 al7 st8 rd8 rd58 df;refine sxL_of (fun m ρ Y => ∃ (k:Nat) (w':List Int),m = wy.length - k ∧ k ≤ wy.length ∧ Keep H5 Y ∧ Own Y H6.size 26 [.slice xa wy.length xc,.int .i64 zy] ∧ (0 < wy.length → w'.length = wy.length ∧ Own Y rx 3 (w'.map fun z => .int .i64 z)) ∧ ρ 0 = .int .i64 rule ∧ ρ 1 = .int .i64 e ∧ ρ 2 = .slice va c.length vc ∧ ρ 7 = .slice a2 c.length c.length ∧ ρ 8 = .pointer (some ⟨H3.size,0,none⟩) ∧ ρ 9 = .int .i64 fy ∧ ρ 10 = .int .i64 (t:Int) ∧ ρ 11 = .pointer (some ⟨H6.size,0,none⟩) ∧ ρ 13 = .int .i64 (k:Int))
    ⟨0,wy,rfl,Nat.zero_le _,k59,o89,fun h => ⟨rfl,(hox9 h).2.2.2.2⟩,e0,e1,e2,e7,e8,e9,e10,rfl,rfl⟩ ?_
  clear e0 e1 e2 e7 e8 e9 e10 k59 o89 ρ;rintro m ρ Y ⟨k,w',rfl,hk,kY,oY,hoy,e0,e1,e2,e7,e8,e9,e10,e11,e13⟩;have rd0:=(ownP oY).2.1
  by_cases hlk:k < wy.length
  case neg =>
    have hlk':¬ (k:Int) < (wy.length:Int):=by omega
    clear hox9 hoy oY hlk hk
    repeat' (first | simp only [↓Zabs,↓Zabp,↓Zabr,↓Zaae,↓Zabm,↓Zabo,↓Zacj,↓Zaci,↓Zaco,↓Zaaq,↓Zaaj,↓Zaap,↓Zaas,↓Zaak,↓Zaam,↓Zaan,↓Zaao,↓Zacl,↓bxPut,↓Zabk,↓Zabj,↓Zaad,↓Zaac,↓Zabf,↓Zabe,↓Zacp,↓Zaba,↓Zaay,Zack,Zaab,Zabd,Zacg,↓reduceIte,Nat.reduceEqDiff,Nat.reduceLT,dec_F,true_and,Nat.add_zero,one1,Option.bind_some, *,lenI,paG0,ldIs,one1])
    exact ⟨2 - (t + 1),by omega,t + 1,rfl,by omega,rfl⟩
  have hlk':(k:Int) < (wy.length:Int):=by omega
  have hwk:IntKind.i64.wrap ((k:Int) + 1) = ((k + 1:Nat):Int):=wrap_succ hlk hmlw;have hob:=hox9 (by omega)
  obtain ⟨hxa,hxc,hrx,hnx,_⟩:=hob;have hob:=hoy (by omega)
  obtain ⟨hwl,oW⟩:=hob;have hob:=stI1 kY hrx oW (-1) (o:=k) (by omega)
  obtain ⟨Z,stZ,kZ,_,oZ,otZ⟩:=hob;have oYZ:=otZ _ _ _ (Ne.symm hnx) oY;have hix:aIndexAt Tryz.prog 22 (.slice xa wy.length xc) (.int .i64 (k:Int)) = some (.pointer (some ⟨rx,k,none⟩)):=by
    rw [hxa,hxc,ixI,if_pos ⟨by omega,hlk'⟩,Int.toNat_natCast,Nat.mul_one,Nat.zero_add]
  have hw2l:0 < wy.length → (w'.set k (-1)).length = wy.length ∧ Own Z rx 3 ((w'.set k (-1)).map fun z => .int .i64 z):=fun _ => ⟨by rw [List.length_set]; exact hwl,oZ⟩
  clear hoy hox9 oW hwl oZ otZ kY oY hxa hxc hrx hnx
  repeat' (first | simp only [↓Zabs,↓Zabp,↓Zabr,↓Zaae,↓Zabm,↓Zabo,↓Zacj,↓Zaci,↓Zaco,↓Zaaq,↓Zaaj,↓Zaap,↓Zaas,↓Zaak,↓Zaam,↓Zaan,↓Zaao,↓Zacl,↓bxPut,↓Zabk,↓Zabj,↓Zaad,↓Zaac,↓Zabf,↓Zabe,↓Zacp,↓Zaba,↓Zaay,Zack,Zaab,Zabd,Zach,↓reduceIte,Nat.reduceEqDiff,Nat.reduceLT,dec_T,true_and,Nat.add_zero,one1,Option.bind_some, *,lenI,paG0,ldIs,one1])
  exact ⟨wy.length - (k + 1),by omega,k + 1,_,rfl,by omega,hw2l,rfl⟩
end Go.Proofs.YtpeoleimmabceaaGreat
