/- The difference of words. -/
import Derived.Test.YtdfjaoncabanbaaDoorN4
set_option linter.unusedVariables false
set_option linter.unusedSimpArgs false
set_option linter.unusedSectionVars false

namespace Go.Proofs.YtdfjaoncabanbaaDoor
open Go Go.AM
set_option maxRecDepth 10000

def onB (H:Heap):Base:={ toHeap:=H,side:=[] }
def uvL (L:List Int):List Value:=L.map fun z => .int .u32 z
theorem uvL_len (L:List Int):(uvL L).length = L.length:=by simp [uvL]
theorem arrU_read {HB:Base} {X:Heap} {b r:Nat} {q:Bool} {L:List Int} (h:Arr HB X b r 96 1 q (uvL L)) {k:Nat} (hk:k < L.length):X.read r k 1 = some [.int .u32 (L.getD k 0)]:=by
  rw [h.read (o:=k) (n:=1) (by rw [uvL_len]; omega)]
  unfold uvL;rw [← List.map_drop,← List.map_take,List.drop_eq_getElem_cons hk,List.getD_eq_getElem?_getD,List.getElem?_eq_getElem hk];rfl
theorem arrU_store {HB:Base} {X:Heap} {b r:Nat} {q:Bool} {L:List Int} (h:Arr HB X b r 96 1 q (uvL L)) (z:Int) {o:Nat} (ho:o < L.length) :
    ∃ Y,aStore Tryd.prog X 96 (.pointer (some ⟨r,o,none⟩)) (.int .u32 z) = some Y ∧ Arr HB Y b r 96 1 q (uvL (L.set o z)):=by
  obtain ⟨Y,h1,h2,_⟩:=h.store (P:=Tryd.prog) (t:=96) (i:=Tryd.t96) infU.1 (v:=.int .u32 z) (new:=[.int .u32 z]) rfl infU.2 rfl (o:=o) (by rw [uvL_len]; show o + 1 ≤ L.length; omega)
  unfold uvL at h2;rw [splice_map ho] at h2;exact ⟨Y,h1,h2⟩
theorem okU:ElemOk Tryd.prog #[59,59] 96 (intE .u32).sz:=⟨⟨59,59,_,Tryd.t96,.int .u32 0,rfl,rfl,Tryd.underlying59,Tryd.underlying59,rfl,by kernel_rfl,by kernel_rfl,by kernel_rfl,by kernel_rfl,of_decide_eq_true (by kernel_rfl)⟩,by show 0 < 1; decide⟩
theorem bs0U (H:Heap):aBuildSlice Tryd.prog H 59 0 [] = some (.slice (some ⟨H.size,0,none⟩) 0 0,H.newExact [] 96):=by kernel_rfl
theorem neNilU (r o n c:Nat):binP Tryd.prog .eql 59 (.slice (some ⟨r,o,none⟩) n c) (.slice none 0 0) = some (.bool false):=by kernel_rfl
theorem chunksU {H:Heap} {L:List Int} {cells:List Value} (h:Chunks (intE .u32) H L cells):cells = uvL L:=by
  have hl:cells.length = L.length * 1:=h.1;apply List.ext_getElem (by rw [uvL_len]; omega)
  intro i h2 h3;have hi:i < L.length:=by omega
  have h4:((cells.drop (i * 1)).take 1) = [.int .u32 (L.getD i default)]:=(h.2 i hi).1;rw [Nat.mul_one,List.drop_eq_getElem_cons h2] at h4;have h5:[cells[i]] = [Value.int .u32 (L.getD i default)]:=h4;have h6:=List.cons.inj h5;have h7:(uvL L)[i] = Value.int .u32 L[i]:=by simp [uvL]
  rw [h6.1,h7,List.getD_eq_getElem?_getD,List.getElem?_eq_getElem hi]; rfl
theorem lst_arrU {A X:Heap} {v:Value} {L:List Int} (h:LstG (intE .u32) 96 A.size X v L) (hk:Keep A X) (hg:Grp A) (h0:0 < L.length):∃ b r,v = .slice (some ⟨r,0,none⟩) L.length L.length ∧ Arr (onB A) X b r 96 1 false (uvL L):=by
  rcases h with ⟨rfl,_⟩ | ⟨b,r,cells,hb,hl,ha,hf,hv,hp,hc⟩
  · exact absurd h0 (Nat.lt_irrefl 0)
  · obtain rfl:=chunksU hc;exact ⟨b,r,hv,hk,hb,ha.ge,hg,(fun x hx => by cases hx),.inr ⟨rfl,ha,hf⟩⟩
theorem CutR.arr {A X:Heap} {b r:Nat} {q:Bool} {cells:List Value} (h:Arr (onB A) X b r 96 1 q cells):CutR X r:=by
  rcases h.row with ⟨_,h1⟩ | ⟨_,h1,_⟩
  · exact CutR.own h1
  · exact ⟨h1.lt,_,h1.get,.inr rfl⟩
theorem arrU_sl {A X:Heap} {b r:Nat} {q:Bool} {L:List Int} (h:Arr (onB A) X b r 96 1 q (uvL L)) (hd:W.Digs L) (hl:L.length ≤ 100000) (c:Nat):SlI .u32 X (.slice (some ⟨r,0,none⟩) L.length c) L r 0:=by
  refine ⟨⟨_,_,rfl,fun _ => rfl⟩,fun i hi => ⟨_,?_,rfl,?_⟩,fun _ => h.lt,by have:Go.maxLen = 9223372036854775807:=rfl; omega⟩
  · have:=arrU_read h hi;rw [Nat.zero_add];show X.read r (i * 1) 1 = _;rw [Nat.mul_one]; exact this
  · have h1:IntKind.u32.min = 0:=by decide
    have h2:IntKind.u32.max = 4294967295:=by decide
    rw [h1,h2];have:=hd.getD i;exact ⟨this.1,this.2⟩
theorem wsub_step {l y c:Int} (hl:0 ≤ l ∧ l ≤ 4294967295) (hy:0 ≤ y ∧ y ≤ 4294967295) (hc:0 ≤ c ∧ c ≤ 1) :
    ∃ z c':Int,z = (l - (c + y) % 4294967296) % 4294967296 ∧ c' = (c + y) / 4294967296 + (if l < (c + y) % 4294967296 then 1 else 0) ∧ (0 ≤ z ∧ z ≤ 4294967295) ∧ (0 ≤ c' ∧ c' ≤ 1) ∧ z + y = l - c + 4294967296 * c':=by
  refine ⟨_,_,rfl,rfl,?_⟩;split <;> omega

theorem app0 {H:Heap} {r:Nat} {e':TypeId} (ho:Own H r e' []) (r0 c:Nat):aAppend Tryd.prog H #[59,59] (.slice (some ⟨r,0,none⟩) 0 0) (.slice (some ⟨r0,0,none⟩) 0 c) = some (.slice (some ⟨r,0,none⟩) 0 0,H):=by
  obtain ⟨⟨sT,xT,d,inf,z,h1,h2,h3,h4,h5,h6,h7,h8,h9,h10⟩,hp⟩:=okU;have hsz:(intE .u32).sz = 1:=rfl;rw [hsz] at h9 hp;have hfst:aFirst H 1 0 (.slice (some ⟨r0,0,none⟩) 0 c) = some []:=rfl;have hn:lenV (.slice (some ⟨r0,0,none⟩) 0 c) = some 0:=rfl;have hsm:small (0 + 0) inf.bytes = true:=by unfold small; rw [Nat.ble_eq_true_of_le (show 0 + 0 ≤ 268435456 by omega),Nat.ble_eq_true_of_le h10]; rfl
  unfold aAppend;rw [h1,h2];simp only [h3,h4,h5,h6,hn,h7,h9];rw [hfst];simp only [];rw [Trie.beq_tt (h8.trans h9),show Nat.blt 0 1 = true from rfl,hsm]
  simp only [Bool.and_self,cond_true];unfold aAppendSome;rw [ho.get];simp only [];rw [show Nat.beq 0 0 = true from rfl,cond_true,Nat.ble_eq_true_of_le (Nat.le_refl _),cond_true]

variable {S:AM.Sys} (hS:Only S 5)
include hS

theorem cloneU_runs (r0:Nat) (w:List Int) (r o c:Nat) (H:Heap) (hg:Grp H) (hl:SlI .u32 H (.slice (some ⟨r0,0,none⟩) w.length c) w r o) (h0:0 < w.length) (hs:w.length ≤ 1000) :
    ∃ v2 H',Runs Tryd.prog S (.fn 92) [.slice (some ⟨r0,0,none⟩) w.length c] H v2 H' ∧ Keep H H' ∧ LstG (intE .u32) 96 H.size H' v2 w:=by
  suffices h:WCall Tryd.prog S (.fn 92) [.slice (some ⟨r0,0,none⟩) w.length c] H (fun v2 H' => Keep H H' ∧ LstG (intE .u32) 96 H.size H' v2 w) by
    obtain ⟨v2,H',hr,h⟩:=h; exact ⟨v2,H',hr,h⟩
  have hkn:=Keep.newExact H [] 96;have hln:=hl.keep hkn;have hpl:Plain0 (.slice (some ⟨r0,0,none⟩) w.length c):=fun a' n' c' e => by cases e; exact .inl rfl
  obtain ⟨new,c1,c2,c3⟩:=hln.first Nat.one_pos hpl;obtain ⟨v2,H2,p1,_,p2,p3⟩:=Own.put0 (P:=Tryd.prog) (ts:=#[59,59]) (E:=intE .u32) (L:=H.size) okU (hkn.grp hg) (Own.new H [] 96) (Nat.le_refl _) hkn.size c3 c2 rfl c1 (by omega)
  have hl2:=p2 h0;have hK:=hkn.trans p3;have b0:=bs0U H;have hnn:=neNilU r0 0 w.length c;clear hln hkn p3 p2 hl c1 c2 c3 hpl;refine Zaaw Tryd.func92 rfl (Nat.le_of_ble_eq_true rfl) (hS.no rfl _ _) ?_
  rw [Tryd.ntmps92,Tryd.results92]
  repeat' simp only [↓Zabr,↓Zabo,↓Zabq,↓Zaag,↓Zabp,↓Zaci,↓Zach,↓Zacn,↓Zaar,↓Zaaj,↓Zaam,↓Zaak,↓bxOp_append,↓bxPut,↓Zabj,↓Zabk,↓Zabh,↓Zacl,↓Zacm,↓Zaco,↓Zaba,↓Zaay,Zacj,Zacf,Zabf,List.map_nil,↓reduceIte,Nat.reduceEqDiff,Nat.reduceLT,and_self, *,argF,List.getD_cons_zero]
theorem cloneU_empty (r0 c:Nat) (H:Heap) (hg:Grp H) :
    ∃ r c' H',Runs Tryd.prog S (.fn 92) [.slice (some ⟨r0,0,none⟩) 0 c] H (.slice (some ⟨r,0,none⟩) 0 c') H' ∧ Keep H H':=by
  suffices h:WCall Tryd.prog S (.fn 92) [.slice (some ⟨r0,0,none⟩) 0 c] H (fun v2 H' => ∃ r c',v2 = .slice (some ⟨r,0,none⟩) 0 c' ∧ Keep H H') by
    obtain ⟨v2,H',hr,r,c',rfl,h⟩:=h; exact ⟨r,c',H',hr,h⟩
  have hkn:=Keep.newExact H [] 96;have ho:=Own.new H [] 96;have p1:=app0 ho r0 c;have b0:=bs0U H;have hnn:=neNilU r0 0 0 c;clear ho;refine Zaaw Tryd.func92 rfl (Nat.le_of_ble_eq_true rfl) (hS.no rfl _ _) ?_
  rw [Tryd.ntmps92,Tryd.results92]
  repeat' simp only [↓Zabr,↓Zabo,↓Zabq,↓Zaag,↓Zabp,↓Zaci,↓Zach,↓Zacn,↓Zaar,↓Zaaj,↓Zaam,↓Zaak,↓bxOp_append,↓bxPut,↓Zabj,↓Zabk,↓Zabh,↓Zacl,↓Zacm,↓Zaco,↓Zaba,↓Zaay,Zacj,Zacf,Zabf,List.map_nil,↓reduceIte,Nat.reduceEqDiff,Nat.reduceLT,and_true, *,argF,List.getD_cons_zero]
  exact ⟨_,_,rfl⟩

set_option maxHeartbeats 4000000 in
theorem takeFrom_runs (v2:Value) (L y:List Int) (b r r2 o2 c0:Nat) (q:Bool) (A H:Heap) (hLA:A.low ≤ A.size) (arr:Arr (onB A) H b r 96 1 q (uvL L)) (h2:SlI .u32 A v2 y r2 o2) (hd:W.Digs L) (hy:W.Digs y) (hyl:y.length ≤ L.length) (hll:L.length ≤ 1000) (hle:W.val y ≤ W.val L) :
    ∃ H' M,Runs Tryd.prog S (.fn 88) [.slice (some ⟨r,0,none⟩) L.length c0,v2,.int .u32 1] H (.tuple #[]) H' ∧ Arr (onB A) H' b r 96 1 q (uvL M) ∧ W.Digs M ∧ M.length = L.length ∧ W.val M = W.val L - W.val y:=by
  suffices h:WCall Tryd.prog S (.fn 88) [.slice (some ⟨r,0,none⟩) L.length c0,v2,.int .u32 1] H (fun v H' => v = .tuple #[] ∧ ∃ M,Arr (onB A) H' b r 96 1 q (uvL M) ∧ W.Digs M ∧ M.length = L.length ∧ W.val M = W.val L - W.val y) by
    obtain ⟨_,H',hr,rfl,M,h⟩:=h; exact ⟨H',M,hr,h⟩
  obtain ⟨a2,c2,rfl⟩:=h2.v0;refine Zaaw Tryd.func88 rfl (Nat.le_of_ble_eq_true rfl) (hS.no rfl _ _) ?_
  rw [Tryd.ntmps88,Tryd.results88]
  repeat' simp only [↓Zabo,↓Zabq,↓Zaah,↓Zabl,↓Zaci,↓Zach,↓Zacn,↓Zaar,↓Zaaj,↓Zaap,↓bxPut,↓Zabj,↓Zaco,↓Zaba,↓Zaay,Zacj,↓reduceIte,Nat.reduceEqDiff,Nat.reduceLT, *,argF,List.getD_cons_zero,lenU]
  refine sxL_of (fun m ρ X => ∃ (i:Nat) (M:List Int) (c:Int),m = L.length - i ∧ i ≤ L.length ∧ M.length = L.length ∧ W.Digs M ∧ (0 ≤ c ∧ c ≤ 1) ∧ W.val (M.take i) + W.val (y.take i) = W.val (L.take i) + 4294967296 ^ i * c ∧ (∀ k,i ≤ k → M.getD k 0 = L.getD k 0) ∧ Arr (onB A) X b r 96 1 q (uvL M) ∧
    ρ 0 = .slice (some ⟨r,0,none⟩) L.length c0 ∧ ρ 1 = .slice a2 y.length c2 ∧ ρ 2 = .int .u32 1 ∧ ρ 6 = .int .u64 c ∧ ρ 10 = .int .i64 (L.length:Int) ∧ ρ 11 = .int .i64 (i:Int))
    ⟨0,L,0,rfl,Nat.zero_le _,rfl,hd,by omega,by simp [W.val],fun _ _ => rfl,arr,rfl,rfl,rfl,rfl,rfl,rfl⟩ ?_
  clear arr;rintro m ρ X ⟨i,M,c,rfl,hi,hMl,hMd,hc,hov,hrest,arr,e0,e1,e2,e6,e10,e11⟩
  by_cases hlt:i < L.length
  · have hlt':(i:Int) < (L.length:Int):=by omega
    have hwi:IntKind.i64.wrap ((i:Int) + 1) = ((i + 1:Nat):Int):=IntWalk.i64_in _ (by omega)
    have f2:=(wordAt_runs hS _ y r2 o2 X i (h2.keep arr.keep) (by omega)).bx
    have p2:=ixUn (r:=r) (c:=c0) hlt;have q2:=arrU_read arr (k:=i) (by omega)
    have hMi:=hrest i (Nat.le_refl i);rw [hMi] at q2;have hxl:=hd.getD i;have hyl:=hy.getD i;obtain ⟨z,c',hz,hc',hz2,hc2,hst⟩:=wsub_step hxl hyl hc;have hnew:W.val ((M.set i z).take (i + 1)) + W.val (y.take (i + 1)) = W.val (L.take (i + 1)) + 4294967296 ^ (i + 1) * c':=by
      rw [wtake_succ (M.set i z),List.take_set_of_le (Nat.le_refl i),set_getD (by omega),if_pos rfl,wtake_succ y,wtake_succ L,Int.pow_succ]
      have h3:(4294967296:Int) ^ i * z + 4294967296 ^ i * y.getD i 0 = 4294967296 ^ i * L.getD i 0 - 4294967296 ^ i * c + 4294967296 ^ i * 4294967296 * c':=by
        rw [← Int.mul_add,hst,Int.mul_add,Int.mul_sub,Int.mul_assoc]
      omega
    have hr2:∀ k,i + 1 ≤ k → (M.set i z).getD k 0 = L.getD k 0:=fun k hk => by rw [set_getD (by omega),if_neg (by omega)]; exact hrest k (by omega)
    have hd2:W.Digs (M.set i z):=hMd.set hz2;have hl2:(M.set i z).length = L.length:=by rw [List.length_set]; exact hMl
    obtain ⟨X4,ps,arr4⟩:=arrU_store arr z (o:=i) (by omega)
    clear hov hMd hMl arr h2 hy hd hrest hMi hst hle;generalize L.getD i 0 = x at *;generalize y.getD i 0 = w at *;have g1:IntKind.u64.wrap w = w:=IntWalk.u64_in _ (by omega)
    have g0:IntKind.u64.wrap 1 = 1:=by decide
    have g2:IntKind.u64.wrap (w * 1) = w:=by rw [Int.mul_one]; exact g1
    have g3:IntKind.u64.wrap (c + w) = c + w:=IntWalk.u64_in _ (by omega)
    have g4:IntKind.u32.wrap (c + w) = (c + w) % 4294967296:=wrap3 _;have g5:(c + w).fdiv (2 ^ min (Int.toNat 32) IntKind.u64.bits) = (c + w) / 4294967296:=shr32 (by omega)
    have g6:IntKind.u64.wrap ((c + w) / 4294967296 + 1) = (c + w) / 4294967296 + 1:=IntWalk.u64_in _ (by omega)
    have g7:IntKind.u32.wrap (x - (c + w) % 4294967296) = z:=by rw [wrap3,hz]
    clear hz
    by_cases hlt3:x < (c + w) % 4294967296
    · rw [if_pos hlt3] at hc';subst hc';clear hxl hyl hc
      repeat' simp only [↓Zabr,↓Zabo,↓Zabq,↓Zaag,↓Zabl,↓Zabn,↓Zaci,↓Zach,↓Zacn,↓Zaar,↓Zaaj,↓Zaaq,↓Zaat,↓Zaak,↓Zaao,↓Zaau,↓bxOp_convert,↓Zack,↓bxPut,↓Zabj,↓Zabi,↓Zaaf,↓Zaae,↓Zabe,↓Zabd,↓resQ_normal,↓Zacl,↓Zaco,↓Zaba,↓Zaay,↓Zaaz,aConvH_int,Zacj,sxOptB_ite,Zaad,Zabc,Zabs,Zacg,List.map,List.nil_append,List.append_nil,↓reduceIte,Nat.reduceEqDiff,Nat.reduceLT,dec_T,true_and,one1,Option.bind_some, *,ldU,cvUU,cvU6]
      exact ⟨le32,_,by omega,i + 1,_,_,rfl,by omega,hl2,hd2,hc2,hnew,hr2,arr4,rfl,rfl⟩
    · rw [if_neg hlt3,Int.add_zero] at hc';subst hc';clear hxl hyl hc
      repeat' simp only [↓Zabr,↓Zabo,↓Zabq,↓Zaag,↓Zabl,↓Zabn,↓Zaci,↓Zach,↓Zacn,↓Zaar,↓Zaaj,↓Zaaq,↓Zaat,↓Zaak,↓Zaao,↓Zaau,↓bxOp_convert,↓Zack,↓bxPut,↓Zabj,↓Zabi,↓Zaaf,↓Zaae,↓Zabe,↓Zabd,↓resQ_normal,↓Zacl,↓Zaco,↓Zaba,↓Zaay,↓Zaaz,aConvH_int,Zacj,sxOptB_ite,Zaad,Zabc,Zabs,Zacg,Zacf,List.map,List.nil_append,List.append_nil,↓reduceIte,Nat.reduceEqDiff,Nat.reduceLT,dec_T,dec_F,true_and,one1,Option.bind_some, *,ldU,cvUU,cvU6]
      exact ⟨le32,_,by omega,i + 1,_,_,rfl,by omega,hl2,hd2,hc2,hnew,hr2,arr4,rfl,rfl⟩
  · have hlt':¬ (i:Int) < (L.length:Int):=by omega
    have hie:i = L.length:=by omega
    have hva:W.val M = W.val L - W.val y:=by
      rw [hie,wtake_all (by omega),wtake_all (by omega),wtake_all (by omega)] at hov
      have q1:=wlt_pow hMd L.length (by omega)
      have q2:=wlt_pow hd L.length (by omega)
      have q3:=hy.nonneg;have q4:=W.pow_pos' L.length;have hc0:c = 0 ∨ c = 1:=by omega
      rcases hc0 with rfl | rfl
      · omega
      · omega
    have hpo:∃ M,Arr (onB A) X b r 96 1 q (uvL M) ∧ W.Digs M ∧ M.length = L.length ∧ W.val M = W.val L - W.val y:=⟨M,arr,hMd,hMl,hva⟩;clear hov hMd hMl arr h2 hy hd hie hva hc hi hlt hrest hle
    repeat' simp only [↓Zabr,↓Zabo,↓Zabq,↓Zaag,↓Zabl,↓Zabn,↓Zaci,↓Zach,↓Zacn,↓Zaar,↓Zaaj,↓Zaaq,↓Zaat,↓Zaak,↓Zaao,↓Zaau,↓bxOp_convert,↓Zack,↓bxPut,↓Zabj,↓Zabi,↓Zaaf,↓Zaae,↓Zabe,↓Zabd,↓resQ_normal,↓Zacl,↓Zaco,↓Zaba,↓Zaay,↓Zaaz,Zacj,Zaad,Zabc,Zabs,Zacf,List.nil_append,↓reduceIte,Nat.reduceLT,dec_F,and_true, *]
    rfl

theorem reduced_runs (a y:List Int) (r1 c1:Nat) (v2:Value) (r2 o2:Nat) (H:Heap) (hg:Grp H) (hL:H.low ≤ H.size) (h1:SlI .u32 H (.slice (some ⟨r1,0,none⟩) a.length c1) a r1 0) (h2:SlI .u32 H v2 y r2 o2) (ha:W.Digs a) (hna:W.Norm a) (hy:W.Digs y) (hny:W.Norm y) (hsa:a.length ≤ 1000) (hle:W.val y ≤ W.val a) :
    ∃ H' M r c,Runs Tryd.prog S (.fn 77) [.slice (some ⟨r1,0,none⟩) a.length c1,v2] H (.slice (some ⟨r,0,none⟩) M.length c) H' ∧ Keep H H' ∧ SlI .u32 H' (.slice (some ⟨r,0,none⟩) M.length c) M r 0 ∧ M.length ≤ c ∧ (0 < M.length → CutR H' r) ∧ W.Digs M ∧ W.val M = W.val a - W.val y ∧ M.length = a.length:=by
  have hyl:=W.len_le hy hny ha hle;obtain ⟨a2,c2,rfl⟩:=h2.v0;rcases Nat.eq_zero_or_pos a.length with h0 | h0
  · have ha0:a = []:=List.length_eq_zero_iff.1 h0;subst ha0;have hy0:y = []:=List.length_eq_zero_iff.1 (Nat.le_zero.1 hyl);subst hy0;obtain ⟨r,c',H1,R1,k1⟩:=cloneU_empty hS r1 c1 H hg;have f1:=R1.bx
    suffices h:WCall Tryd.prog S (.fn 77) [.slice (some ⟨r1,0,none⟩) 0 c1,.slice a2 0 c2] H (fun v H' => v = .slice (some ⟨r,0,none⟩) 0 c' ∧ H' = H1) by
      obtain ⟨_,_,hr,rfl,rfl⟩:=h;exact ⟨_,[],r,c',hr,k1,⟨⟨_,_,rfl,fun h => absurd h (Nat.lt_irrefl 0)⟩,fun i hi => absurd hi (Nat.not_lt_zero i),fun h => absurd h (Nat.lt_irrefl 0),Nat.zero_le _⟩,Nat.zero_le _,fun h => absurd h (Nat.lt_irrefl 0),hy,rfl,rfl⟩
    have R2:Runs Tryd.prog S (.fn 88) [.slice (some ⟨r,0,none⟩) 0 c',.slice a2 0 c2,.int .u32 1] H1 (.tuple #[]) H1:=by
      suffices h:WCall Tryd.prog S (.fn 88) [.slice (some ⟨r,0,none⟩) 0 c',.slice a2 0 c2,.int .u32 1] H1 (fun v H' => v = .tuple #[] ∧ H' = H1) by
        obtain ⟨_,_,hr,rfl,rfl⟩:=h; exact hr
      refine Zaaw Tryd.func88 rfl (Nat.le_of_ble_eq_true rfl) (hS.no rfl _ _) ?_
      rw [Tryd.ntmps88,Tryd.results88];clear f1 R1 k1
      repeat' simp only [↓Zabo,↓Zabq,↓Zaah,↓Zabl,↓Zaci,↓Zach,↓Zacn,↓Zaar,↓Zaaj,↓Zaap,↓bxPut,↓Zabj,↓Zaco,↓Zaba,↓Zaay,Zacj,↓reduceIte,Nat.reduceEqDiff,Nat.reduceLT, *,argF,List.getD_cons_zero,lenU]
      refine sxL_of (fun m ρ X => m = 0 ∧ X = H1 ∧ ρ 10 = .int .i64 ((0:Nat):Int) ∧ ρ 11 = .int .i64 0) ⟨rfl,rfl,rfl,rfl⟩ ?_
      rintro m ρ X ⟨rfl,rfl,e10,e11⟩;have h0:¬ (0:Int) < ((0:Nat):Int):=by omega
      repeat' simp only [↓Zabr,↓Zabo,↓Zabq,↓Zaag,↓Zabl,↓Zabn,↓Zaci,↓Zach,↓Zacn,↓Zaar,↓Zaaj,↓Zaaq,↓Zaat,↓Zaak,↓Zaao,↓Zaau,↓bxOp_convert,↓Zack,↓bxPut,↓Zabj,↓Zabi,↓Zaaf,↓Zaae,↓Zabe,↓Zabd,↓resQ_normal,↓Zacl,↓Zaco,↓Zaba,↓Zaay,↓Zaaz,Zacj,Zaad,Zabc,Zabs,Zacf,List.nil_append,↓reduceIte,Nat.reduceLT,dec_F,and_true, *]
      rfl
    have f2:=R2.bx;clear R1 R2 h1 h2 ha hna hy hny hle hyl h0 hsa k1;refine Zaaw Tryd.func77 rfl (Nat.le_of_ble_eq_true rfl) (hS.no rfl _ _) ?_
    rw [Tryd.ntmps77,Tryd.results77]
    repeat' simp only [↓Zabo,↓Zabq,↓Zabp,↓Zaci,↓Zach,↓Zacn,↓Zaar,↓Zaaj,↓Zaau,↓bxPut,↓Zabj,↓Zabh,↓Zacl,↓Zacm,↓Zaco,↓Zaba,↓Zaay,↓Zaaz,Zabs,Zabf,List.map,List.nil_append,List.append_nil,↓reduceIte,Nat.reduceEqDiff,Nat.reduceLT,and_self, *,argF,List.getD_cons_zero,List.getD_cons_succ]
  · obtain ⟨v1,H1,R1,k1,l1⟩:=cloneU_runs hS r1 a r1 0 c1 H hg h1 h0 hsa;obtain ⟨b,r,rfl,arr⟩:=lst_arrU l1 k1 hg h0;obtain ⟨H2,M,R2,arr2,hMd,hMl,hMv⟩:=takeFrom_runs hS _ a y b r r2 o2 a.length false H H1 hL arr h2 ha hy hyl hsa hle;have f1:=R1.bx;have f2:=R2.bx;have sl:=arrU_sl arr2 hMd (by omega) a.length
    suffices h:WCall Tryd.prog S (.fn 77) [.slice (some ⟨r1,0,none⟩) a.length c1,.slice a2 y.length c2] H (fun v H' => v = .slice (some ⟨r,0,none⟩) a.length a.length ∧ H' = H2) by
      obtain ⟨_,_,hr,rfl,rfl⟩:=h;exact ⟨_,M,r,a.length,by rw [hMl]; exact hr,arr2.keep,sl,by omega,fun _ => CutR.arr arr2,hMd,hMv,hMl⟩
    clear R1 R2 h1 h2 ha hna hy hny hle hyl h0 hsa k1 l1 arr arr2 hMd hMl hMv sl;refine Zaaw Tryd.func77 rfl (Nat.le_of_ble_eq_true rfl) (hS.no rfl _ _) ?_
    rw [Tryd.ntmps77,Tryd.results77]
    repeat' simp only [↓Zabo,↓Zabq,↓Zabp,↓Zaci,↓Zach,↓Zacn,↓Zaar,↓Zaaj,↓Zaau,↓bxPut,↓Zabj,↓Zabh,↓Zacl,↓Zacm,↓Zaco,↓Zaba,↓Zaay,↓Zaaz,Zabs,Zabf,List.map,List.nil_append,List.append_nil,↓reduceIte,Nat.reduceEqDiff,Nat.reduceLT,and_self, *,argF,List.getD_cons_zero,List.getD_cons_succ]
end Go.Proofs.YtdfjaoncabanbaaDoor
