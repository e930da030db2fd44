/- slices.SortFunc. -/
import Derived.Test.YteechkbnccpicaaSDP
import Derived.Test.YteechkbnccpicaaT2
set_option linter.unusedVariables false
set_option linter.unusedSimpArgs false
set_option linter.unusedSectionVars false

namespace Go.Proofs.Yteechkbnccpicaa
open Go Go.AM
set_option maxRecDepth 10000
variable {S:AM.Sys} (hS:Only S 11) {g:FuncId} {pre cs:List Value} {HB:Base} {V:(Int × Int) → Prop} {lt:(Int × Int) → (Int × Int) → Bool} (hc:CmpP S g pre cs HB V lt) (hLB:HB.low ≤ HB.size) {b r c:Nat} {k:Bool}
include hS hc hLB

theorem sortP_runs (hw:Sort.SWO lt) (d:Array (Int × Int)) (H:Heap) (hm:d.size ≤ 60000) (hd:SaP HB H b r k d) (hV:AllP V d) :
    ∃ u H',Runs Try.prog S (.fn 71) [.slice (some ⟨r,0,none⟩) d.size c,.func (.func g) ⟨pre⟩ ⟨cs⟩] H u H' ∧ DoneP HB b r k V lt 0 d.size d H H':=by
  suffices h:WCall Try.prog S (.fn 71) [.slice (some ⟨r,0,none⟩) d.size c,.func (.func g) ⟨pre⟩ ⟨cs⟩] H (fun u H' => DoneP HB b r k V lt 0 d.size d H H') by
    obtain ⟨u,H',hr,h⟩:=h; exact ⟨u,H',hr,h⟩
  have f1:=(bLen_runs hS d.size (by omega) H).bx
  have hw0:IntKind.u64.wrap ((d.size:Nat):Int) = ((d.size:Nat):Int):=IntWalk.u64_in _ (by omega)
  obtain ⟨u,H2,hR2,hdone⟩:=pdqP_runs hS hc hLB (c:=c) hw (d.size - 0) 0 d.size ((Sort.bitsLen d.size:Nat):Int) d H rfl (Nat.zero_le _) (Nat.le_refl _) hm (.inl rfl) hd hV;have f2:=hR2.bx;have f2':∀ (K:Value → Heap → Prop) (bl:Blk K),sxCallB Try.prog S (.fn 83) [.slice (some ⟨r,0,none⟩) d.size c,.int .i64 0,.int .i64 ((d.size:Nat):Int),.int .i64 ((Sort.bitsLen d.size:Nat):Int),.func (.func g) ⟨pre⟩ ⟨cs⟩] H K bl = K u H2:=f2;clear hR2 hd hV f2;refine Zaba Try.func71 rfl (Nat.le_of_ble_eq_true rfl) (hS.no rfl _ _) ?_
  rw [Try.ntmps71,Try.results71]
  repeat' simp only [↓Zabx,↓Zabz,↓Zacw,↓Zacv,↓Zadb,↓Zaau,↓Zaam,↓Zaay,↓Zaas,↓bxOp_convert,↓bxPut,↓Zabs,↓Zabp,↓Zacz,↓Zadc,↓Zabg,↓Zabe,↓Zabf,aConvH_int,Zacx,Zacb,List.map,List.nil_append,List.append_nil,↓reduceIte,Nat.reduceEqDiff,Nat.reduceLT, *,argF,List.getD_cons_zero,List.getD_cons_succ,lenP,cvIU]
end Go.Proofs.Yteechkbnccpicaa

namespace Go.Proofs.Yteechkbnccpicaa
open Go Go.AM
set_option maxRecDepth 10000

def onH (H:Heap):Base:={ toHeap:=H,side:=[] }
def R2 (x:Pt):Prop:=R64 x.1 ∧ R64 x.2
def PtsIn (H0 H:Heap) (v:Value) (d:Array Pt):Prop:=AllP R2 d ∧ d.size ≤ 60000 ∧ Grp H0 ∧ Keep H0 H ∧
  ((d.size = 0 ∧ v = .slice none 0 0) ∨ (0 < d.size ∧ ∃ b r k,v = .slice (some ⟨r,0,none⟩) d.size d.size ∧ SaP (onH H0) H b r k d))
theorem chunks_flat {H:Heap}:∀ {xs:List Pt} {cells:List Value},Chunks stE H xs cells → cells = xs.flatMap pc ∧ ∀ x ∈ xs,R2 x
  | [],cells,h => by
    have h1:=h.1;simp at h1;exact ⟨by simpa using h1,fun x hx => by cases hx⟩
  | x :: xs,cells,h => by
    have h1:cells.length = (xs.length + 1) * 2:=h.1;have h2:stE.At H x ((cells.drop (0 * 2)).take 2):=h.2 0 (by simp)
    obtain ⟨h3,h4⟩:=stE_inv h2;rw [Nat.zero_mul,List.drop_zero] at h3
    have hk:Chunks stE H xs (cells.drop 2):=⟨by show _ = xs.length * 2; rw [List.length_drop]; omega,fun i hi => by
      have h5:stE.At H ((x :: xs).getD (i + 1) default) ((cells.drop ((i + 1) * 2)).take 2):=h.2 (i + 1) (by simpa using hi)
      rw [List.getD_cons_succ] at h5;show stE.At H _ (((cells.drop 2).drop (i * 2)).take 2);rw [List.drop_drop,show 2 + i * 2 = (i + 1) * 2 by omega]
      exact h5⟩
    obtain ⟨k1,k2⟩:=chunks_flat hk;refine ⟨?_,fun y hy => ?_⟩
    · rw [List.flatMap_cons,← h3,← k1,List.take_append_drop]
    · rcases List.mem_cons.1 hy with e | hy
      · rw [e]; exact h4
      · exact k2 y hy
theorem allP_mem {V:Pt → Prop} {xs:List Pt}:AllP V xs.toArray ↔ ∀ x ∈ xs,V x:=by
  constructor
  · intro h x hx;obtain ⟨i,hi,rfl⟩:=List.getElem_of_mem hx;have:=h i (by simpa using hi)
    simpa [hi] using this
  · intro h i hi;have hi':i < xs.length:=by simpa using hi
    have:=h xs[i] (List.getElem_mem hi')
    simpa [hi'] using this
theorem PtsIn.lst {L:Nat} {H0 H:Heap} {v:Value} {xs:List Pt} (h:LstG stE 40 L H v xs) (hk:Keep H0 H) (hg:Grp H0) (hL:H0.size ≤ L) (hm:xs.length ≤ 60000):PtsIn H0 H v xs.toArray:=by
  rcases h with ⟨rfl,rfl⟩ | ⟨b,r,cells,hb,hl,ha,hf,rfl,hp,hc⟩
  · exact ⟨fun i hi => by simp at hi,by simp,hg,hk,.inl ⟨rfl,rfl⟩⟩
  · obtain ⟨h1,h2⟩:=chunks_flat hc;have h3:flat celTwo xs.toArray = cells:=by rw [h1]; rfl
    refine ⟨allP_mem.2 h2,by simpa using hm,hg,hk,.inr ⟨by simpa using hp,b,r,false,by simp,⟨hk,Nat.le_trans hL hb,ha.ge,hg,(fun x hx => by cases hx),.inr ⟨rfl,?_,?_⟩⟩⟩⟩
    · rw [h3]; exact ha
    · rw [h3]; exact hf
theorem PtsIn.sl {H0 H:Heap} {v:Value} {d:Array Pt} (h:PtsIn H0 H v d):∃ r,SlP H v d.toList r 0 ∧ (0 < d.size → H0.size ≤ r):=by
  obtain ⟨hV,hm,hg,hk,h | ⟨hp,b,r,k,rfl,ha⟩⟩:=h
  · obtain ⟨h1,rfl⟩:=h;have h2:d.toList = []:=List.length_eq_zero_iff.1 (by simpa using h1)
    rw [h2];exact ⟨0,⟨⟨none,0,rfl,fun h => absurd h (Nat.lt_irrefl 0)⟩,fun i hi => absurd hi (Nat.not_lt_zero i),fun h => absurd h (Nat.lt_irrefl 0),Nat.zero_le _⟩,fun h => by omega⟩
  · refine ⟨r,⟨⟨_,_,by rw [Array.length_toList],fun _ => rfl⟩,fun i hi => ?_,fun _ => ha.lt,?_⟩,fun _ => Nat.le_trans ha.le ha.ge⟩
    · have hi':i < d.size:=by simpa using hi
      have hle:i * 2 + 2 ≤ (flat celTwo d).length:=by rw [flat_len]; show _ ≤ d.size * 2; omega
      have h1:=ha.read hle;have h2:=flat_at (C:=celTwo) d hi';have h2:((flat celTwo d).drop (i * 2)).take 2 = pc d[i]!:=h2;rw [h2] at h1;have h3:d.toList.getD i default = d[i]!:=by
        rw [getElem!_pos _ i hi',List.getD_eq_getElem?_getD,List.getElem?_eq_getElem (by simpa using hi')]
        rfl
      refine ⟨pc d[i]!,by rw [Nat.zero_add]; exact h1,?_⟩
      rw [h3];exact stE_at (hV i hi').1 (hV i hi').2
    · have:Go.maxLen = 9223372036854775807:=rfl;rw [Array.length_toList];omega

variable {S:AM.Sys} (hS:Only S 11)
include hS

theorem insN_runs (f:Value) (H:Heap):∃ u,Runs Try.prog S (.fn 96) [.slice none 0 0,.int .i64 0,.int .i64 0,f] H u H:=by
  suffices h:WCall Try.prog S (.fn 96) [.slice none 0 0,.int .i64 0,.int .i64 0,f] H (fun u H' => H' = H) by
    obtain ⟨u,_,hr,rfl⟩:=h; exact ⟨u,hr⟩
  have hw:IntKind.i64.wrap (0 + 1) = 1:=by decide
  have hn:¬ (1:Int) < 0:=by decide
  refine Zaba Try.func96 rfl (Nat.le_of_ble_eq_true rfl) (hS.no rfl _ _) ?_
  rw [Try.ntmps96,Try.results96]
  repeat' simp only [↓Zabx,↓Zabz,↓Zaaj,↓Zabu,↓Zacw,↓Zacv,↓Zadb,↓Zaau,↓Zaam,↓Zaan,↓bxPut,↓Zabs,↓Zadc,↓Zabg,↓Zabe,Zacx,Zaae,Zabi,↓reduceIte,Nat.reduceLT, *,argF,List.getD_cons_zero,List.getD_cons_succ]
  refine sxL_of (fun m ρ H1 => H1 = H ∧ ρ 2 = .int .i64 0 ∧ ρ 8 = .int .i64 1) (n:=0) ⟨rfl,rfl,rfl⟩ ?_
  rintro m ρ H1 ⟨rfl,e2,e4⟩
  repeat' simp only [↓Zaca,↓Zabx,↓Zabz,↓Zaai,↓Zaaj,↓Zabu,↓Zabw,↓Zacw,↓Zacv,↓Zadb,↓Zaau,↓Zaam,↓Zaan,↓bxPut,↓Zabs,↓Zabr,↓Zaaf,↓Zabk,↓Zabj,↓Zabp,↓Zacz,↓Zadc,↓Zabg,↓Zabe,Zacx,Zaae,Zabi,Zact,↓reduceIte,Nat.reduceEqDiff,Nat.reduceLT,dec_F, *]

theorem pdqN_runs (f:Value) (H:Heap):∃ u,Runs Try.prog S (.fn 83) [.slice none 0 0,.int .i64 0,.int .i64 0,.int .i64 0,f] H u H:=by
  suffices h:WCall Try.prog S (.fn 83) [.slice none 0 0,.int .i64 0,.int .i64 0,.int .i64 0,f] H (fun u H' => H' = H) by
    obtain ⟨u,_,hr,rfl⟩:=h; exact ⟨u,hr⟩
  obtain ⟨u,hR⟩:=insN_runs hS f H;have f1:=hR.bx;have hw:IntKind.i64.wrap (0 - 0) = 0:=by decide
  have hn:(0:Int) ≤ 12:=by decide
  refine Zaba Try.func83 rfl (Nat.le_of_ble_eq_true rfl) (hS.no rfl _ _) ?_
  rw [Try.ntmps83,Try.results83]
  repeat' simp only [↓Zabx,↓Zabz,↓Zaaj,↓Zabu,↓Zacw,↓Zacv,↓Zadb,↓Zaam,↓bxPut,↓Zabs,↓Zabe,Nat.reduceLT, *]
  refine sxL_of (fun m ρ H1 => H1 = H ∧ ρ 0 = .slice none 0 0 ∧ ρ 1 = .int .i64 0 ∧ ρ 2 = .int .i64 0 ∧ ρ 4 = f) (n:=0) ⟨rfl,rfl,rfl,rfl,rfl⟩ ?_
  rintro m ρ H1 ⟨rfl,e0,e1,e2,e4⟩
  repeat' (first | simp only [↓Zaca,↓Zabv,↓Zabx,↓Zabz,↓Zaai,↓Zabu,↓Zabw,↓Zaby,↓Zacw,↓Zacv,↓Zaco,↓Zaak,↓Zacj,↓Zack,↓Zaci,↓Zace,↓Zacl,↓Zach,↓Zadb,↓Zaaz,↓Zaau,↓Zaam,↓Zaav,↓Zaat,↓Zaan,↓Zaax,↓Zaar,↓Zaap,↓Zaay,↓bxPut,↓Zabs,↓Zabr,↓Zabt,↓Zaag,↓Zaah,↓Zaaf,↓Zabk,↓Zabj,↓Zabl,↓Zabp,↓Zabq,↓Zacz,↓Zadc,↓Zabg,↓Zabe,↓Zabf,↓dstAt,↓Zabh,Zacx,Zaae,Zabi,Zacb,Zacu,List.map,List.nil_append,List.append_nil,↓reduceIte,Nat.reduceEqDiff,Nat.reduceLT,dec_T, *] | (with_reducible first | refine Zacd (by assumption) (by decide +kernel) ?_ | refine Zacc (by decide +kernel) ?_ | refine Zacm (by decide +kernel) ?_ | refine Zacf ?_))
theorem sortN_runs (f:Value) (H:Heap):∃ u,Runs Try.prog S (.fn 71) [.slice none 0 0,f] H u H:=by
  suffices h:WCall Try.prog S (.fn 71) [.slice none 0 0,f] H (fun u H' => H' = H) by
    obtain ⟨u,_,hr,rfl⟩:=h; exact ⟨u,hr⟩
  obtain ⟨u,hR⟩:=pdqN_runs hS f H;have f1:=hR.bx;have f2:=(bLen_runs hS 0 (by omega) H).bx
  have f2':∀ (K:Value → Heap → Prop) (bl:Blk K),sxCallB Try.prog S (.fn 78) [.int .u64 0] H K bl = K (.int .i64 0) H:=f2;have hw:IntKind.u64.wrap ((0:Nat):Int) = 0:=by decide
  have hw2:((0:Nat):Int) = 0:=rfl;have hw3:IntKind.u64.wrap 0 = 0:=by decide
  clear f2;refine Zaba Try.func71 rfl (Nat.le_of_ble_eq_true rfl) (hS.no rfl _ _) ?_
  rw [Try.ntmps71,Try.results71]
  repeat' simp only [↓Zabx,↓Zabz,↓Zacw,↓Zacv,↓Zadb,↓Zaau,↓Zaam,↓Zaay,↓Zaas,↓bxOp_convert,↓bxPut,↓Zabs,↓Zabp,↓Zacz,↓Zadc,↓Zabg,↓Zabe,↓Zabf,aConvH_int,Zacx,Zacb,List.map,List.nil_append,List.append_nil,↓reduceIte,Nat.reduceEqDiff,Nat.reduceLT, *,argF,List.getD_cons_zero,List.getD_cons_succ,lenS,cvI2U]
theorem revN_runs (H:Heap):∃ u,Runs Try.prog S (.fn 74) [.slice none 0 0] H u H:=by
  suffices h:WCall Try.prog S (.fn 74) [.slice none 0 0] H (fun u H' => H' = H) by
    obtain ⟨u,_,hr,rfl⟩:=h; exact ⟨u,hr⟩
  have hw:IntKind.i64.wrap (((0:Nat):Int) - 1) = -1:=by decide
  have hn:¬ (0:Int) < -1:=by decide
  refine Zaba Try.func74 rfl (Nat.le_of_ble_eq_true rfl) (hS.no rfl _ _) ?_
  rw [Try.ntmps74,Try.results74]
  repeat' simp only [↓Zabx,↓Zabz,↓Zaaj,↓Zabu,↓Zacw,↓Zacv,↓Zadb,↓Zaau,↓Zaam,↓Zaan,↓Zaas,↓bxPut,↓Zabs,↓Zadc,↓Zabg,↓Zabe,Zacx,Zaae,Zabi,↓reduceIte,Nat.reduceEqDiff,Nat.reduceLT, *,argF,List.getD_cons_zero,lenS]
  refine sxL_of (fun m ρ H1 => H1 = H ∧ ρ 2 = .int .i64 0 ∧ ρ 3 = .int .i64 (-1)) (n:=0) ⟨rfl,rfl,rfl⟩ ?_
  rintro m ρ H1 ⟨rfl,e2,e4⟩
  repeat' (first | simp only [↓Zaca,↓Zabv,↓Zabx,↓Zabz,↓Zaai,↓Zabu,↓Zabw,↓Zacw,↓Zacv,↓Zaco,↓Zaak,↓Zacj,↓Zaci,↓Zach,↓Zadb,↓Zaau,↓Zaam,↓Zaat,↓Zaaw,↓Zaan,↓Zaar,↓Zacy,↓bxPut,↓Zabs,↓Zabr,↓Zaag,↓Zaaf,↓Zabk,↓Zabj,↓Zabp,↓Zacz,↓Zadc,↓Zabg,↓Zabe,Zacx,Zaae,Zabi,Zact,↓reduceIte,Nat.reduceEqDiff,Nat.reduceLT,dec_F, *] | (with_reducible first | refine Zacd (by assumption) (by decide +kernel) ?_ | refine Zacc (by decide +kernel) ?_ | refine Zacm (by decide +kernel) ?_ | refine Zacf ?_))

set_option maxHeartbeats 2000000 in
theorem revS_runs {HB:Base} (hLB:HB.low ≤ HB.size) {b r c:Nat} {k:Bool} (d:Array Pt) (H:Heap) (hd:SaP HB H b r k d) (h1:0 < d.size) (hm:d.size ≤ 100000000) :
    ∃ u H' R,Runs Try.prog S (.fn 74) [.slice (some ⟨r,0,none⟩) d.size c] H u H' ∧ SaP HB H' b r k R ∧ R.size = d.size ∧ (∀ j,j < d.size → R[j]! = d[d.size - 1 - j]!):=by
  suffices h:WCall Try.prog S (.fn 74) [.slice (some ⟨r,0,none⟩) d.size c] H (fun u H' => ∃ R,SaP HB H' b r k R ∧ R.size = d.size ∧ (∀ j,j < d.size → R[j]! = d[d.size - 1 - j]!)) by
    obtain ⟨u,H',hr,R,h⟩:=h; exact ⟨u,H',R,hr,h⟩
  refine Zaba Try.func74 rfl (Nat.le_of_ble_eq_true rfl) (hS.no rfl _ _) ?_
  rw [Try.ntmps74,Try.results74];have hw0:IntKind.i64.wrap ((d.size:Int) - 1) = ((d.size - 1:Nat):Int):=by rw [IntWalk.i64_in _ (by omega)]; omega
  repeat' simp only [↓Zabx,↓Zabz,↓Zaaj,↓Zabu,↓Zacw,↓Zacv,↓Zadb,↓Zaau,↓Zaam,↓Zaan,↓Zaas,↓bxPut,↓Zabs,↓Zadc,↓Zabg,↓Zabe,Zacx,Zaae,Zabi,↓reduceIte,Nat.reduceEqDiff,Nat.reduceLT, *,argF,List.getD_cons_zero,lenS]
  refine sxL_of (fun m ρ H1 => ∃ (i j:Nat) (d1:Array Pt),m = j - i ∧ i + j = d.size - 1 ∧ i ≤ j + 1 ∧ SaP HB H1 b r k d1 ∧ d1.size = d.size ∧
      (∀ x,x < d.size → d1[x]! = if x < i ∨ j < x then d[d.size - 1 - x]! else d[x]!) ∧
      ρ 0 = .slice (some ⟨r,0,none⟩) d.size c ∧ ρ 2 = .int .i64 (i:Int) ∧ ρ 3 = .int .i64 (j:Int))
    ⟨0,d.size - 1,d,rfl,by omega,by omega,hd,rfl,fun x hx => by rw [if_neg (by omega)],rfl,rfl,rfl⟩ ?_
  clear hd;rintro m ρ H1 ⟨i,j,d1,rfl,hij,hij1,hd,hsz,hall,e0,e2,e3⟩
  by_cases hlt:i < j
  case neg =>
    have hn:¬ (i:Int) < (j:Int):=by omega
    have hpost:∃ R,SaP HB H1 b r k R ∧ R.size = d.size ∧ (∀ j,j < d.size → R[j]! = d[d.size - 1 - j]!):=⟨d1,hd,hsz,fun x hx => by
      rw [hall x hx];split
      · rfl
      · congr 1; omega⟩
    clear hall
    repeat' (first | simp only [↓Zaca,↓Zabv,↓Zabx,↓Zabz,↓Zaai,↓Zabu,↓Zabw,↓Zacw,↓Zacv,↓Zaco,↓Zaak,↓Zacj,↓Zaci,↓Zach,↓Zadb,↓Zaau,↓Zaam,↓Zaat,↓Zaaw,↓Zaan,↓Zaar,↓Zacy,↓bxPut,↓Zabs,↓Zabr,↓Zaag,↓Zaaf,↓Zabk,↓Zabj,↓Zabp,↓Zacz,↓Zadc,↓Zabg,↓Zabe,Zacx,Zaae,Zabi,Zact,↓reduceIte,Nat.reduceEqDiff,Nat.reduceLT,dec_F, *] | (with_reducible first | refine Zacd (by assumption) (by decide +kernel) ?_ | refine Zacc (by decide +kernel) ?_ | refine Zacm (by decide +kernel) ?_ | refine Zacf ?_))
  have hp:(i:Int) < (j:Int):=by omega
  have hF0:i < d1.size:=by omega
  have hF1:j < d1.size:=by omega
  have hwi:IntKind.i64.wrap ((i:Int) + 1) = ((i + 1:Nat):Int):=by rw [IntWalk.i64_in _ (by omega)]; omega
  have hwj:IntKind.i64.wrap ((j:Int) - 1) = ((j - 1:Nat):Int):=by rw [IntWalk.i64_in _ (by omega)]; omega
  have hix0:Zaaa Try.prog 35 (.slice (some ⟨r,0,none⟩) d.size c) (.int .i64 (i:Int)) = _:=ixAtP (by omega)
  have hix1:Zaaa Try.prog 35 (.slice (some ⟨r,0,none⟩) d.size c) (.int .i64 (j:Int)) = _:=ixAtP (by omega)
  have l0:=ldAtP hd hF0;have l1:=ldAtP hd hF1;have hL1:=hd.lowS hLB;have hsw:=swDP hLB hd hF0 hF1;obtain ⟨H6,H7,H8,H9,hs6,he6,hs7,he7,hd7,hz7,hL9,hL7⟩:=hsw;have hsz7:=(swp_szP d1 i j).trans hsz;have hall':∀ x,x < d.size → (Sort.swp d1 i j)[x]! = if x < i + 1 ∨ j - 1 < x then d[d.size - 1 - x]! else d[x]!:=fun x hx => by
    rw [Sort.swp_get d1 hF0 hF1 x]
    by_cases x1:x = j
    · subst x1;rw [if_pos rfl,if_pos (by omega),hall i (by omega),if_neg (by omega)]
      congr 1; omega
    · rw [if_neg x1]
      by_cases x2:x = i
      · subst x2;rw [if_pos rfl,if_pos (by omega),hall j (by omega),if_neg (by omega)]
        congr 1; omega
      · rw [if_neg x2,hall x hx]
        by_cases x3:x < i ∨ j < x
        · rw [if_pos x3,if_pos (by omega)]
        · rw [if_neg x3,if_neg (by omega)]
  clear hd hall
  repeat' (first | simp only [↓Zaca,↓Zabv,↓Zabx,↓Zabz,↓Zaai,↓Zabu,↓Zabw,↓Zacw,↓Zacv,↓Zaco,↓Zaak,↓Zacj,↓Zaci,↓Zach,↓Zacn,↓Zadb,↓Zaau,↓Zaam,↓Zaat,↓Zaaw,↓Zaan,↓Zaar,↓Zacy,↓bxPut,↓Zabs,↓Zabr,↓Zaag,↓Zaaf,↓Zabk,↓Zabj,↓Zabp,↓Zacz,↓Zadc,↓Zabg,↓Zabe,Zacx,Zaae,Zabi,Zacu,↓reduceIte,Nat.reduceEqDiff,Nat.reduceLT,dec_T,true_and,Zaab, *] | (with_reducible first | refine Zacd (by assumption) (by decide +kernel) ?_ | refine Zacc (by decide +kernel) ?_ | refine Zacm (by decide +kernel) ?_ | refine Zacf ?_))
  exact ⟨j - 1 - (i + 1),by omega,i + 1,j - 1,Sort.swp d1 i j,rfl,by omega,by omega,hd7,hsz7,hall',rfl,rfl⟩
end Go.Proofs.Yteechkbnccpicaa
