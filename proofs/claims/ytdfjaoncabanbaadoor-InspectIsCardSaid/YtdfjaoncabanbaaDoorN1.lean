/- Whole numbers of any size, as the program keeps them: words; the number of words and a sign; the sign; a word. -/
import Derived.Test.YtdfjaoncabanbaaDoorW0
import Derived.Test.YtdfjaoncabanbaaDoorB1
set_option linter.unusedVariables false
set_option linter.unusedSimpArgs false
set_option linter.unusedSectionVars false

namespace Go.Proofs.YtdfjaoncabanbaaDoor
open Go Go.AM
set_option maxRecDepth 10000

theorem ldU (H:Heap) (r o:Nat):aLoad Tryd.prog H 96 (.pointer (some ⟨r,o,none⟩)) = (H.read r o 1).bind one1:=by kernel_rfl
theorem ldUs (H:Heap) (r o:Nat):aLoad Tryd.prog H 59 (.pointer (some ⟨r,o,none⟩)) = (H.read r o 1).bind one1:=by kernel_rfl
theorem ldBo (H:Heap) (r o:Nat):aLoad Tryd.prog H 4 (.pointer (some ⟨r,o,none⟩)) = (H.read r o 1).bind one1:=by kernel_rfl
theorem lenU (a:Option Addr) (n c:Nat):aLen Tryd.prog #[59] (.slice a n c) = some (.int .i64 n):=by kernel_rfl
theorem ixU (r o n c:Nat) (k:IntKind) (i:Int):aIndexAt Tryd.prog 59 (.slice (some ⟨r,o,none⟩) n c) (.int k i) = if 0 ≤ i ∧ i < (n:Int) then some (.pointer (some ⟨r,o + i.toNat * 1,none⟩)) else none:=by kernel_rfl
theorem ixUn {r n c k:Nat} (h:k < n):aIndexAt Tryd.prog 59 (.slice (some ⟨r,0,none⟩) n c) (.int .i64 (k:Int)) = some (.pointer (some ⟨r,k,none⟩)):=by
  rw [ixU,if_pos ⟨by omega,by omega⟩,Int.toNat_natCast,Nat.mul_one,Nat.zero_add]
theorem cvUU (z:Int):aConv Tryd.prog 96 94 (.int .u32 z) = some (.int .u64 (IntKind.u64.wrap z)):=by kernel_rfl
theorem cvU6 (z:Int):aConv Tryd.prog 94 96 (.int .u64 z) = some (.int .u32 (IntKind.u32.wrap z)):=by kernel_rfl
theorem cvI6 (z:Int):aConv Tryd.prog 3 94 (.int .i64 z) = some (.int .u64 (IntKind.u64.wrap z)):=by kernel_rfl
theorem ldNum (H:Heap) (r o:Nat):aLoad Tryd.prog H 61 (.pointer (some ⟨r,o,none⟩)) = (H.read r o 2).map fun l => .agg ⟨l⟩:=by kernel_rfl
theorem alNum (H:Heap):aAlloc Tryd.prog H 61 = some (.pointer (some ⟨H.size,0,none⟩),H.newExact [.bool false,.slice none 0 0] 61):=by kernel_rfl
theorem bdNum (b:Bool) (a:Option Addr) (n c:Nat):aBuild Tryd.prog 61 [(0,.bool b),(1,.slice a n c)] = some (.agg ⟨[.bool b,.slice a n c]⟩):=by kernel_rfl
theorem faN0 (r o:Nat):aFieldAt Tryd.prog 61 0 (.pointer (some ⟨r,o,none⟩)) = some (.pointer (some ⟨r,o,none⟩)):=by kernel_rfl
theorem faN1 (r o:Nat):aFieldAt Tryd.prog 61 1 (.pointer (some ⟨r,o,none⟩)) = some (.pointer (some ⟨r,o + 1,none⟩)):=by kernel_rfl
theorem infN:Tryd.prog.info? 61 = some Tryd.t61 ∧ Tryd.t61.size = 2:=⟨by kernel_rfl,by kernel_rfl⟩
theorem infU:Tryd.prog.info? 96 = some Tryd.t96 ∧ Tryd.t96.size = 1:=⟨by kernel_rfl,by kernel_rfl⟩
def CutR (H:Heap) (r:Nat):Prop:=r < H.size ∧ ∃ row,H.rows.get r = some row ∧ (row.exact = true ∨ row.esz = 1)
theorem CutR.keep {H H':Heap} {r:Nat} (h:CutR H r) (k:Keep H H'):CutR H' r:=by
  obtain ⟨h1,row,h2,h3⟩:=h;exact ⟨Nat.lt_of_lt_of_le h1 k.size,row,(k.row r row h1 h2).1,h3⟩
theorem CutR.own {H:Heap} {r:Nat} {e:TypeId} {cells:List Value} (h:Own H r e cells):CutR H r:=⟨h.lt,_,h.get,.inl rfl⟩
theorem cutU {H:Heap} {r n c:Nat} (h:CutR H r) (hc:n + 1 ≤ c) (hn:n < 1000):aSlice Tryd.prog H 59 (.slice (some ⟨r,0,none⟩) (n + 1) c) none (some (.int .i64 (n:Int))) none = some (.slice (some ⟨r,0,none⟩) n c):=by
  obtain ⟨_,row,h2,h3⟩:=h;unfold aSlice;rw [Tryd.underlying59];simp only [infU.1,h2];have hb:aBounds (n + 1) c none (some (.int .i64 (n:Int))) none = some (0,n,c):=by
    have h1:aBound (.int .i64 (n:Int)) c = some n:=by
      unfold aBound;simp only [];rw [if_pos (by omega),Int.toNat_natCast]
    unfold aBounds;simp only [h1]
  rw [hb,infU.2,Nat.ble_eq_true_of_le hc];rcases h3 with h3 | h3
  · rw [h3];simp
  · rw [h3];simp
def NumIs (H:Heap) (v:Value) (z:Int) (lo:Nat):Prop:=
  ∃ w r c,v = .agg ⟨[.bool (decide (z < 0)),.slice (some ⟨r,0,none⟩) w.length c]⟩ ∧ SlI .u32 H (.slice (some ⟨r,0,none⟩) w.length c) w r 0 ∧ W.Digs w ∧ W.Norm w ∧ W.val w = z.natAbs ∧ w.length ≤ lo
theorem NumIs.keep {H H':Heap} {v:Value} {z:Int} {lo:Nat} (h:NumIs H v z lo) (k:Keep H H'):NumIs H' v z lo:=by
  obtain ⟨w,r,c,h1,h2,h3⟩:=h;exact ⟨w,r,c,h1,h2.keep k,h3⟩
theorem NumIs.mono {H:Heap} {v:Value} {z:Int} {a b:Nat} (h:NumIs H v z a) (hab:a ≤ b):NumIs H v z b:=by
  obtain ⟨w,r,c,h1,h2,h3,h4,h5,h6⟩:=h;exact ⟨w,r,c,h1,h2,h3,h4,h5,Nat.le_trans h6 hab⟩
def NumOut (S:AM.Sys) (f:FuncId) (args:List Value) (H:Heap) (z:Int) (lo:Nat):Prop:=∃ H' v,Keep H H' ∧ NumIs H' v z lo ∧ Runs Tryd.prog S (.fn f) args H v H'
theorem drawnN {S:AM.Sys} {f:FuncId} {args:List Value} {H:Heap} {z:Int} {lo:Nat} (hL:H.low ≤ H.size) (h:NumOut S f args (H.relow H.size) z lo) :
    ∃ v H4 H5,Keep H H5 ∧ H5.low ≤ H5.size ∧ (∀ (K:Value → Heap → Prop) (b:Blk K),sxCallB Tryd.prog S (.fn f) args (H.relow H.size) K b = K v H4) ∧ (∀ (all:List Oper) (n:Nat) (k:Heap → Prop),sxD all n H H4 k = k H5) ∧ NumIs H5 v z lo:=by
  obtain ⟨H6,v,hK6,hb,hR⟩:=h;obtain ⟨w,r,c,h1,h2,h3⟩:=hb;exact ⟨v,H6,H6.relow (Nat.min H.low H6.low),Keep.draw hK6,(Keep.draw hK6).low hL,hR.bx,fun all n k => sxD_keep hK6 k,w,r,c,h1,⟨h2.isv,h2.rd,h2.lt,h2.ml⟩,h3⟩
theorem NumIs.addr {H:Heap} {v:Value} {z:Int} {lo l:Nat} (h:NumIs H v z lo):NumIs (H.relow l) v z lo:=by
  obtain ⟨w,r,c,h1,h2,h3⟩:=h;exact ⟨w,r,c,h1,⟨h2.isv,h2.rd,h2.lt,h2.ml⟩,h3⟩
theorem stNum {H0 H:Heap} {r:Nat} {cells:List Value} (hk:Keep H0 H) (hr:H0.size ≤ r) (ow:Own H r 61 cells) (hl:cells.length = 2) (b:Bool) (a:Option Addr) (n c:Nat) :
    ∃ Ha,aStore Tryd.prog H 61 (.pointer (some ⟨r,0,none⟩)) (.agg ⟨[.bool b,.slice a n c]⟩) = some Ha ∧ Keep H0 Ha ∧ Ha.size = H.size ∧ Ha.read r 0 2 = some [.bool b,.slice a n c]:=by
  obtain ⟨Ha,h1,h2,h3,h4,h5⟩:=ow.store (P:=Tryd.prog) (t:=61) (i:=Tryd.t61) infN.1 (v:=.agg ⟨[.bool b,.slice a n c]⟩) (new:=[.bool b,.slice a n c]) rfl infN.2 rfl (o:=0) (by show 0 + 2 ≤ cells.length; omega)
  refine ⟨Ha,h1,h5 H0 hk hr,h3,?_⟩;have h6:=h2.read (o:=0) (n:=2) (by rw [splice_length (show 0 + 2 ≤ cells.length by omega)]; omega)
  rw [h6];exact congrArg some (splice_at (l:=cells) (off:=0) (vs:=[.bool b,.slice a n c]) (show 0 + 2 ≤ cells.length by omega))
theorem boxN (H:Heap) (v u:Value):∃ H1,H.newExact [v,u] 61 = H1 ∧ Keep H H1 ∧ H.size < H1.size ∧ H1.read H.size 0 2 = some [v,u] ∧ H1.read H.size 0 1 = some [v] ∧ H1.read H.size (0 + 1) 1 = some [u]:=by
  obtain ⟨H1,e1,hK1,hz1,_,hr1⟩:=box1 H [v,u] 61;exact ⟨H1,e1,hK1,hz1,hr1 0 2 (by show 0 + 2 ≤ 2; omega),hr1 0 1 (by show 0 + 1 ≤ 2; omega),hr1 (0 + 1) 1 (by show 0 + 1 + 1 ≤ 2; omega)⟩

variable {S:AM.Sys} (hS:Only S 5)
include hS

theorem signed_runs (neg:Bool) (w:List Int) (r c:Nat) (H:Heap) (hL:H.low ≤ H.size) (hd:SlI .u32 H (.slice (some ⟨r,0,none⟩) w.length c) w r 0) (hc:w.length ≤ c) (hn:w.length < 1000) (hr:0 < w.length → CutR H r) :
    ∃ H',Keep H H' ∧ Runs Tryd.prog S (.fn 56) [.bool neg,.slice (some ⟨r,0,none⟩) w.length c] H (.agg ⟨[.bool (neg && decide (0 < (W.trimL w).length)),.slice (some ⟨r,0,none⟩) (W.trimL w).length c]⟩) H':=by
  rw [W.trimL_len];obtain ⟨tn,htn⟩:∃ tn,W.trimN w w.length = tn:=⟨_,rfl⟩;rw [htn];obtain ⟨bb,hbb⟩:∃ bb,(neg && decide (0 < tn)) = bb:=⟨_,rfl⟩;rw [hbb]
  suffices h:WCall Tryd.prog S (.fn 56) [.bool neg,.slice (some ⟨r,0,none⟩) w.length c] H (fun v H' => v = .agg ⟨[.bool bb,.slice (some ⟨r,0,none⟩) tn c]⟩ ∧ Keep H H') by
    obtain ⟨_,H',hrr,rfl,hk⟩:=h; exact ⟨H',hk,hrr⟩
  obtain ⟨H1,e1,k1,z1,-,-⟩:=box1 H [.bool false,.slice none 0 0] 61;have ow1:Own H1 H.size 61 [.bool false,.slice none 0 0]:=e1 ▸ Own.new H _ _;have l1:=k1.low hL;refine Zaaw Tryd.func56 rfl (Nat.le_of_ble_eq_true rfl) (hS.no rfl _ _) ?_
  rw [Tryd.ntmps56,Tryd.results56]
  repeat' simp only [↓Zabo,↓Zabq,↓Zaah,↓Zabl,↓Zabp,↓Zaci,↓Zach,↓Zacn,↓Zaav,↓Zaar,↓Zaas,↓bxOp_alloc,↓bxOp_build,↓Zaat,↓Zaak,↓Zaap,↓Zack,↓bxPut,↓Zabj,↓Zabh,↓Zacl,↓bxRes_cell,↓Zaba,↓Zaay,↓dstAt,↓Zabb,Zacj,Zabf,Nat.reduceLT, *,alNum]
  refine sxL_of (fun m ρ X => m ≤ w.length ∧ W.trimN w m = tn ∧ X = H1 ∧ ρ 0 = .bool neg ∧ ρ 1 = .slice (some ⟨r,0,none⟩) m c ∧ ρ 4 = .pointer (some ⟨H.size,0,none⟩))
    ⟨Nat.le_refl _,htn,rfl,rfl,rfl,rfl⟩ ?_
  clear e1 htn;rintro m ρ X ⟨hm,htr,rfl,e0,e1,e4⟩;obtain ⟨Ha,q1,q2,_,q3⟩:=stNum k1 (Nat.le_refl _) ow1 rfl bb (some ⟨r,0,none⟩) tn c;cases m with
  | zero =>
    have ht0:tn = 0:=htr.symm;have h00:¬ (0:Int) < ((0:Nat):Int):=by omega
    subst ht0;clear hd hr htr ow1 k1;have hb:bb = false:=by rw [← hbb]; cases neg <;> rfl
    subst hb;clear hbb;cases neg
    · repeat' simp only [↓Zabr,↓Zabo,↓Zabq,↓Zaag,↓Zabl,↓Zabn,↓Zaci,↓Zach,↓Zacn,↓Zaav,↓Zaar,↓Zaaj,↓Zaas,↓Zaaq,↓Zaak,↓bxOp_slice,↓Zaao,↓Zaap,↓bxPut,↓Zabj,↓Zabi,↓Zaaf,↓Zaae,↓Zabe,↓Zabd,↓Zaco,↓Zaba,↓Zaay,↓dstAt,↓Zabb,Zacj,Zaad,Zabc,Zaab,sxGuardB_tf,Zacf,List.map,↓reduceIte,Nat.reduceEqDiff,Nat.reduceLT,dec_F,and_self,Option.map_some,Option.map_none, *,lenU,bdNum,ldNum]
    · repeat' simp only [↓Zabr,↓Zabo,↓Zabq,↓Zaag,↓Zabl,↓Zabn,↓Zaci,↓Zach,↓Zacn,↓Zaav,↓Zaar,↓Zaaj,↓Zaas,↓Zaaq,↓Zaak,↓bxOp_slice,↓Zaao,↓Zaap,↓bxPut,↓Zabj,↓Zabi,↓Zaaf,↓Zaae,↓Zabe,↓Zabd,↓Zaco,↓Zaba,↓Zaay,↓dstAt,↓Zabb,Zacj,Zaad,Zabc,Zaac,Zaab,sxGuardB_tt,sxGuardB_tf,Zacf,List.map,↓reduceIte,Nat.reduceEqDiff,Nat.reduceLT,dec_F,and_self,Option.map_some,Option.map_none, *,lenU,bdNum,ldNum]
  | succ m =>
    have hlt:m < w.length:=by omega
    have p1:=ixUn (r:=r) (c:=c) (Nat.lt_succ_self m);have p2:=(hd.keep k1).rdI hlt;obtain ⟨p2,-⟩:=p2;rw [Nat.zero_add] at p2;have hp:(0:Int) < ((m + 1:Nat):Int):=by omega
    have hw:IntKind.i64.wrap (((m + 1:Nat):Int) - 1) = (m:Int):=by rw [IntWalk.i64_in _ (by omega)]; omega
    have hcu:=cutU ((hr (by omega)).keep k1) (show m + 1 ≤ c by omega) (by omega)
    by_cases hz:w.getD m 0 = 0
    · have htr2:W.trimN w m = tn:=by rw [← htr]; conv => rhs; unfold W.trimN; rw [if_pos hz]
      clear hd htr hr ow1 k1 q1 q2 q3
      repeat' simp only [↓Zabr,↓Zabo,↓Zabq,↓Zaag,↓Zabl,↓Zabn,↓Zaci,↓Zach,↓Zacn,↓Zaav,↓Zaar,↓Zaaj,↓Zaas,↓Zaaq,↓Zaak,↓bxOp_slice,↓Zaao,↓Zaap,↓bxPut,↓Zabj,↓Zabi,↓Zaaf,↓Zaae,↓Zabe,↓Zabd,↓Zaco,↓Zaba,↓Zaay,↓dstAt,↓Zabb,aSliceH_slice,Zacj,Zaad,Zabc,Zaac,sxGuardB_tt,Zacg,↓reduceIte,Nat.reduceEqDiff,Nat.reduceLT,dec_T,true_and,and_true,one1,Option.bind_some,Option.map_some,Option.map_none, *,lenU,ldU]
      exact ⟨m,by omega,by omega,htr2,rfl⟩
    · have htr2:m + 1 = tn:=by rw [← htr]; conv => rhs; unfold W.trimN; rw [if_neg hz]
      subst htr2;clear htr hd hr ow1 k1;have hb:bb = neg:=by rw [← hbb,decide_eq_true (Nat.succ_pos m),Bool.and_true]
      subst hb;clear hbb;cases bb
      · repeat' simp only [↓Zabr,↓Zabo,↓Zabq,↓Zaag,↓Zabl,↓Zabn,↓Zaci,↓Zach,↓Zacn,↓Zaav,↓Zaar,↓Zaaj,↓Zaas,↓Zaaq,↓Zaak,↓bxOp_slice,↓Zaao,↓Zaap,↓bxPut,↓Zabj,↓Zabi,↓Zaaf,↓Zaae,↓Zabe,↓Zabd,↓Zaco,↓Zaba,↓Zaay,↓dstAt,↓Zabb,Zacj,Zaad,Zabc,Zaac,Zaab,sxGuardB_tt,sxGuardB_tf,Zacf,List.map,↓reduceIte,Nat.reduceEqDiff,Nat.reduceLT,dec_T,dec_F,and_self,one1,Option.bind_some,Option.map_some,Option.map_none, *,lenU,ldU,bdNum,ldNum]
      · repeat' simp only [↓Zabr,↓Zabo,↓Zabq,↓Zaag,↓Zabl,↓Zabn,↓Zaci,↓Zach,↓Zacn,↓Zaav,↓Zaar,↓Zaaj,↓Zaas,↓Zaaq,↓Zaak,↓bxOp_slice,↓Zaao,↓Zaap,↓bxPut,↓Zabj,↓Zabi,↓Zaaf,↓Zaae,↓Zabe,↓Zabd,↓Zaco,↓Zaba,↓Zaay,↓dstAt,↓Zabb,Zacj,Zaad,Zabc,Zaac,sxGuardB_tt,Zacf,List.map,↓reduceIte,Nat.reduceEqDiff,Nat.reduceLT,dec_T,dec_F,and_self,one1,Option.bind_some,Option.map_some,Option.map_none, *,lenU,ldU,bdNum,ldNum]
theorem signed_num (neg:Bool) (z:Int) (w:List Int) (r c lo:Nat) (H:Heap) (hL:H.low ≤ H.size) (hd:SlI .u32 H (.slice (some ⟨r,0,none⟩) w.length c) w r 0) (hc:w.length ≤ c) (hn:w.length < 1000) (hr:0 < w.length → CutR H r) (hD:W.Digs w) (hv:W.val w = z.natAbs) (hs:z ≠ 0 → neg = decide (z < 0)) (hlo:w.length ≤ lo) :
    NumOut S 56 [.bool neg,.slice (some ⟨r,0,none⟩) w.length c] H z lo:=by
  obtain ⟨H',k,R⟩:=signed_runs hS neg w r c H hL hd hc hn hr;have ht:=W.trimL_digs hD;have hnm:=W.trimL_norm w;have hvt:W.val (W.trimL w) = z.natAbs:=by rw [W.trimL_val,hv]
  have hle:=W.trimL_le w;have hb:(neg && decide (0 < (W.trimL w).length)) = decide (z < 0):=by
    by_cases h0:0 < (W.trimL w).length
    · have:=W.norm_pos ht hnm h0;rw [decide_eq_true h0,Bool.and_true];exact hs (by omega)
    · have hlen:W.trimL w = []:=List.length_eq_zero_iff.1 (by omega)
      rw [hlen] at hvt;have hz:z = 0:=by
        have:W.val [] = 0:=rfl;omega
      rw [decide_eq_false h0,Bool.and_false,hz]; rfl
  rw [hb] at R;refine ⟨H',_,k,⟨W.trimL w,r,c,rfl,?_,ht,hnm,hvt,by omega⟩,R⟩
  have hdk:=hd.keep k;refine ⟨⟨_,_,rfl,fun _ => rfl⟩,fun i hi => ?_,fun h0 => hdk.lt (by omega),?_⟩
  · obtain ⟨es,h1,h2⟩:=hdk.rd i (by omega)
    refine ⟨es,h1,?_⟩;have e1:(W.trimL w).getD i default = w.getD i default:=by
      unfold W.trimL;rw [List.getD_eq_getElem?_getD,List.getD_eq_getElem?_getD,List.getElem?_take,if_pos (by rw [← W.trimL_len]; exact hi)]
    rw [e1]; exact h2
  · have:Go.maxLen = 9223372036854775807:=rfl;omega

theorem wordAt_runs (v:Value) (w:List Int) (r o:Nat) (H:Heap) (i:Nat) (hd:SlI .u32 H v w r o) (hi:i < 100000):Runs Tryd.prog S (.fn 91) [v,.int .i64 (i:Int)] H (.int .u32 (w.getD i 0)) H:=by
  suffices h:WCall Tryd.prog S (.fn 91) [v,.int .i64 (i:Int)] H (fun v H' => v = .int .u32 (w.getD i 0) ∧ H' = H) by
    obtain ⟨_,_,hrr,rfl,rfl⟩:=h; exact hrr
  obtain ⟨a,c,rfl⟩:=hd.v0;refine Zaaw Tryd.func91 rfl (Nat.le_of_ble_eq_true rfl) (hS.no rfl _ _) ?_
  rw [Tryd.ntmps91,Tryd.results91]
  by_cases hil:i < w.length
  · have hlt:(i:Int) < (w.length:Int):=by omega
    have p1:aIndexAt Tryd.prog 59 (.slice a w.length c) (.int .i64 (i:Int)) = some (.pointer (some ⟨r,o + i,none⟩)):=by
      obtain ⟨a',cap',e,ha⟩:=hd.isv;cases e;rw [ha (by omega),ixU,if_pos ⟨by omega,by omega⟩,Int.toNat_natCast,Nat.mul_one]
    have p2:=hd.rdI hil;obtain ⟨p2,-⟩:=p2;clear hd hil
    repeat' simp only [↓Zabr,↓Zabo,↓Zabq,↓Zaag,↓Zabp,↓Zaci,↓Zach,↓Zacn,↓Zaar,↓Zaaj,↓Zaaq,↓Zaak,↓Zaao,↓Zaap,↓bxPut,↓Zabj,↓Zabk,↓Zabh,↓Zacl,↓Zacm,↓Zaco,↓Zaba,↓Zaay,Zacj,Zaad,Zabc,Zacg,Zabf,↓reduceIte,Nat.reduceEqDiff,Nat.reduceLT,dec_T,and_self,one1,Option.bind_some, *,argF,List.getD_cons_zero,List.getD_cons_succ,lenU,ldU]
  · have hlt:¬ (i:Int) < (w.length:Int):=by omega
    have hz:w.getD i 0 = 0:=by rw [List.getD_eq_getElem?_getD,List.getElem?_eq_none (by omega)]; rfl
    rw [hz];clear hd hil
    repeat' simp only [↓Zabr,↓Zabo,↓Zabq,↓Zaag,↓Zabp,↓Zaci,↓Zach,↓Zacn,↓Zaar,↓Zaaj,↓Zaaq,↓Zaak,↓Zaao,↓Zaap,↓bxPut,↓Zabj,↓Zabk,↓Zabh,↓Zacl,↓Zacm,↓Zaco,↓Zaba,↓Zaay,Zacj,Zaad,Zabc,Zacf,Zabf,↓reduceIte,Nat.reduceEqDiff,Nat.reduceLT,dec_F,and_self, *,argF,List.getD_cons_zero,List.getD_cons_succ,lenU]

theorem nsign_runs (v:Value) (z:Int) (lo:Nat) (H:Heap) (hL:H.low ≤ H.size) (h:NumIs H v z lo):∃ H',Keep H H' ∧ Runs Tryd.prog S (.fn 58) [v] H (.int .i64 (if z < 0 then -1 else if 0 < z then 1 else 0)) H':=by
  obtain ⟨w,r,c,rfl,h1,h2,h3,h4,h5⟩:=h;obtain ⟨H1,e1,k1,z1,r2,r0,r1⟩:=boxN H (.bool (decide (z < 0))) (.slice (some ⟨r,0,none⟩) w.length c);rw [Nat.zero_add] at r1
  suffices h:WCall Tryd.prog S (.fn 58) [.agg ⟨[.bool (decide (z < 0)),.slice (some ⟨r,0,none⟩) w.length c]⟩] H (fun u H' => u = .int .i64 (if z < 0 then -1 else if 0 < z then 1 else 0) ∧ Keep H H') by
    obtain ⟨_,H',hrr,rfl,hk⟩:=h; exact ⟨H',hk,hrr⟩
  have hcs:(Value.agg ⟨[.bool (decide (z < 0)),.slice (some ⟨r,0,none⟩) w.length c]⟩).cells.toList = [.bool (decide (z < 0)),.slice (some ⟨r,0,none⟩) w.length c]:=rfl;have hlz:w.length = 0 ↔ z = 0:=by
    constructor
    · intro h0;rw [List.length_eq_zero_iff.1 h0] at h4;have:W.val [] = 0:=rfl;omega
    · intro h0;rcases Nat.eq_zero_or_pos w.length with h | h
      · exact h
      · have:=W.norm_pos h2 h3 h; omega
  refine Zaaw Tryd.func58 rfl (Nat.le_of_ble_eq_true rfl) (hS.no rfl _ _) ?_
  rw [Tryd.ntmps58,Tryd.results58]
  by_cases h0:z = 0
  · have hl0:((w.length:Nat):Int) = 0:=by have:=hlz.2 h0; omega
    subst h0;clear hlz h1 h2 h3 h4 h5
    repeat' simp only [↓Zabr,↓Zabo,↓Zabq,↓Zaag,↓Zabp,↓Zaci,↓Zach,↓Zacn,↓Zaaj,↓Zaal,↓Zaaq,↓Zaak,↓Zaan,↓Zaap,↓bxPut,↓Zabj,↓Zabk,↓Zabh,↓Zacl,↓Zacm,↓Zaco,↓Zaba,↓Zaay,Zacj,Zaad,Zabc,Zacg,Zabf,↓reduceIte,Nat.reduceEqDiff,Nat.reduceLT,dec_T,and_true,one1,Option.bind_some, *,argF,List.getD_cons_zero,lenU,ldUs,faN1]
    rfl
  · have hl0:¬ ((w.length:Nat):Int) = 0:=by
      intro h; exact h0 (hlz.1 (by omega))
    clear hlz h1 h2 h3 h4 h5
    by_cases hz:z < 0
    · rw [decide_eq_true hz] at e1 r2 r0 hcs ⊢;rw [if_pos hz];clear hz h0
      repeat' simp only [↓Zabr,↓Zabo,↓Zabq,↓Zaag,↓Zabp,↓Zaci,↓Zach,↓Zacn,↓Zaaj,↓Zaal,↓Zaaq,↓Zaak,↓Zaan,↓Zaap,↓bxPut,↓Zabj,↓Zabk,↓Zabh,↓Zacl,↓Zacm,↓Zaco,↓Zaba,↓Zaay,Zacj,Zaad,Zabc,Zacg,Zacf,Zabf,↓reduceIte,Nat.reduceEqDiff,Nat.reduceLT,dec_F,and_self,one1,Option.bind_some, *,argF,List.getD_cons_zero,lenU,ldUs,ldBo,faN0,faN1]
    · rw [decide_eq_false hz] at e1 r2 r0 hcs ⊢;rw [if_neg hz,if_pos (show 0 < z by omega)]
      clear hz h0
      repeat' simp only [↓Zabr,↓Zabo,↓Zabq,↓Zaag,↓Zabp,↓Zaci,↓Zach,↓Zacn,↓Zaaj,↓Zaal,↓Zaaq,↓Zaak,↓Zaan,↓Zaap,↓bxPut,↓Zabj,↓Zabk,↓Zabh,↓Zacl,↓Zacm,↓Zaco,↓Zaba,↓Zaay,Zacj,Zaad,Zabc,Zacf,Zabf,↓reduceIte,Nat.reduceEqDiff,Nat.reduceLT,dec_F,and_self,one1,Option.bind_some, *,argF,List.getD_cons_zero,lenU,ldUs,ldBo,faN0,faN1]
end Go.Proofs.YtdfjaoncabanbaaDoor
