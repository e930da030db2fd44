/- The legs that can be reached from some, by the reference. -/
import Derived.Test.YteechkbnccpicaaQV
import Derived.Test.YteechkbnccpicaaSEP
set_option linter.unusedVariables false
set_option linter.unusedSimpArgs false
set_option linter.unusedSectionVars false

namespace Go.Proofs.Yteechkbnccpicaa
open Go Go.AM
set_option maxRecDepth 10000

def AllR (ls:List Lg) (ch:Int) (B:Lg → Prop) (w:List Bool):Prop:=w.length = ls.length ∧ ∀ j,j < ls.length → (w.getD j false = true ↔ ∃ z,CE ls ch B j z)
def SomeR (ls:List Lg) (ch:Int) (B:Lg → Prop) (w:List Bool):Prop:=∀ j,j < ls.length → w.getD j false = true → ∃ z,CE ls ch B j z
def FirstR (ls:List Lg) (B:Lg → Prop) (w:List Bool):Prop:=∀ j,j < ls.length → B (ls.getD j default) → w.getD j false = true
def ClosedR (ls:List Lg) (ch:Int) (w:List Bool):Prop:=∀ i j,i < ls.length → j < ls.length → w.getD i false = true → jn ls ch i j → w.getD j false = true
theorem ClosedR.reach {ls:List Lg} {ch:Int} {w:List Bool} (h:ClosedR ls ch w):∀ (r:List Nat) (i:Nat),Ch ls ch i r → w.getD i false = true → w.getD (lastN i r) false = true
  | [],i,_,h1 => h1
  | j :: r,i,hc,h1 => ClosedR.reach h r j hc.2.2 (h i j hc.1 hc.2.2.lt h1 hc.2.1)
theorem AllR.of {ls:List Lg} {ch:Int} {B:Lg → Prop} {w:List Bool} (hl:w.length = ls.length) (h:SomeR ls ch B w) (hf:FirstR ls B w) (hc:ClosedR ls ch w):AllR ls ch B w:=
  ⟨hl,fun j hj => ⟨h j hj,fun ⟨z,i,r,h1,h2,h3,_⟩ => h3 ▸ hc.reach r i h1 (hf i h1.lt h2)⟩⟩
theorem SomeR.step {ls:List Lg} {ch:Int} {B:Lg → Prop} {w:List Bool} (h:SomeR ls ch B w) {i j:Nat} (hi:i < ls.length) (hj:j < ls.length) (hw:w.getD i false = true) (hjn:jn ls ch i j):SomeR ls ch B (w.set j true):=fun q hq hwq => by
  by_cases hqj:q = j
  · subst hqj;obtain ⟨z,hz⟩:=h i hi hw;exact ⟨_,(CE.step hq).2 (.inr ⟨i,z,hi,hjn,hz,rfl⟩)⟩
  · rw [setD_other hqj] at hwq;exact h q hq hwq
theorem FirstR.step {ls:List Lg} {B:Lg → Prop} {w:List Bool} (h:FirstR ls B w) (hl:w.length = ls.length) (j:Nat):FirstR ls B (w.set j true):=fun q hq hx => by
  by_cases hqj:q = j
  · subst hqj; exact setD_same (by omega)
  · rw [setD_other hqj]; exact h q hq hx
def Cr (ls:List Lg) (ch:Int) (w:List Bool) (a b:Nat):Prop:=w.getD a false = true → jn ls ch a b → w.getD b false = true
def PassR (ls:List Lg) (ch:Int) (w0 w:List Bool) (ag:Bool) (i j:Nat):Prop:=(ag = false → w = w0 ∧ (∀ a,a < i → ∀ b,b < ls.length → Cr ls ch w0 a b) ∧ ∀ b,b < j → Cr ls ch w0 i b) ∧ (ag = true → opn w < opn w0)
theorem PassR.skip {ls:List Lg} {ch:Int} {w0 w:List Bool} {ag:Bool} {i j:Nat} (h:PassR ls ch w0 w ag i j) (hc:Cr ls ch w i j):PassR ls ch w0 w ag i (j + 1):=by
  refine ⟨fun ha => ?_,h.2⟩
  obtain ⟨h1,h2,h3⟩:=h.1 ha;refine ⟨h1,h2,fun b hb => ?_⟩
  rcases Nat.lt_or_ge b j with h4 | h4
  · exact h3 b h4
  · rw [show b = j by omega,← h1]; exact hc
theorem PassR.add {ls:List Lg} {ch:Int} {w0 w:List Bool} {ag:Bool} {i j:Nat} (h:PassR ls ch w0 w ag i j) (hj:j < w.length) (hw:w.getD j false = false):PassR ls ch w0 (w.set j true) true i (j + 1):=by
  refine ⟨fun ha => (by cases ha),fun _ => ?_⟩
  have h1:=opn_set hj hw;cases ag with
  | false => rw [(h.1 rfl).1] at h1 ⊢; omega
  | true => have:=h.2 rfl; omega
theorem PassR.row {ls:List Lg} {ch:Int} {w0 w:List Bool} {ag:Bool} {i:Nat} (h:PassR ls ch w0 w ag i ls.length):PassR ls ch w0 w ag (i + 1) 0:=by
  refine ⟨fun ha => ?_,h.2⟩
  obtain ⟨h1,h2,h3⟩:=h.1 ha;refine ⟨h1,fun a hai b hb => ?_,fun b hb => absurd hb (Nat.not_lt_zero b)⟩
  rcases Nat.lt_or_ge a i with h4 | h4
  · exact h2 a h4 b hb
  · rw [show a = i by omega]; exact h3 b hb
structure BK (A X:Heap) (av:Option Addr) (w:List Bool) (n:Nat):Prop where
  keep:Keep A X
  len:w.length = n
  row:0 < n → ∃ b r,av = some ⟨r,0,none⟩ ∧ Arr (onH A) X b r 4 1 false (bvs w)
theorem BK.more {A X Y:Heap} {av:Option Addr} {w:List Bool} {n:Nat} (h:BK A X av w n) (k:Keep X Y):BK A Y av w n:=⟨h.keep.trans k,h.len,fun h0 => by obtain ⟨b,r,h1,h2⟩:=h.row h0; exact ⟨b,r,h1,h2.kept k⟩⟩
theorem bvs_one {w:List Bool} {k:Nat} (hk:k < w.length):((bvs w).drop k).take 1 = [.bool (w.getD k false)]:=by
  unfold bvs;rw [← List.map_drop,← List.map_take,List.drop_eq_getElem_cons hk,List.getD_eq_getElem?_getD,List.getElem?_eq_getElem hk];rfl
theorem arrB_read {HB:Base} {X:Heap} {b r:Nat} {q:Bool} {w:List Bool} (h:Arr HB X b r 4 1 q (bvs w)) {k:Nat} (hk:k < w.length):X.read r k 1 = some [.bool (w.getD k false)]:=by
  rw [h.read (o:=k) (n:=1) (by rw [bvs_len]; omega),bvs_one hk]
theorem arrB_store {HB:Base} {X:Heap} {b r:Nat} {q:Bool} {w:List Bool} (h:Arr HB X b r 4 1 q (bvs w)) (z:Bool) {o:Nat} (ho:o < w.length) :
    ∃ Y,aStore Try.prog X 4 (.pointer (some ⟨r,o,none⟩)) (.bool z) = some Y ∧ Arr HB Y b r 4 1 q (bvs (w.set o z)):=by
  obtain ⟨Y,h1,h2,_⟩:=h.store (P:=Try.prog) (t:=4) (i:=Try.t4) (by kernel_rfl) (v:=.bool z) (new:=[.bool z]) rfl (by kernel_rfl) rfl (o:=o) (by rw [bvs_len]; show o + 1 ≤ w.length; omega)
  rw [splice_mapB ho] at h2;exact ⟨Y,h1,h2⟩
theorem chunksB {H:Heap} {w:List Bool} {cells:List Value} (h:Chunks boolE H w cells):cells = bvs w:=by
  have h1:cells.length = w.length * 1:=h.1;apply List.ext_getElem (by rw [bvs_len]; omega)
  intro i h2 h3;have hi:i < w.length:=by omega
  have h4:((cells.drop (i * 1)).take 1) = [.bool (w.getD i default)]:=h.2 i hi;rw [Nat.mul_one,List.drop_eq_getElem_cons h2] at h4;have h5:[cells[i]] = [Value.bool (w.getD i default)]:=h4;have h6:=List.cons.inj h5;have h7:(bvs w)[i] = Value.bool w[i]:=by simp [bvs]
  rw [h6.1,h7,List.getD_eq_getElem?_getD,List.getElem?_eq_getElem hi]; rfl
theorem bvs_ones:∀ w:List Bool,ones (bvs w) = true
  | [] => rfl
  | _ :: w => bvs_ones w
theorem bvs_chunks (H:Heap) (w:List Bool):Chunks boolE H w (bvs w):=⟨by rw [bvs_len]; show _ = w.length * 1; omega,fun i hi => by
  show ((bvs w).drop (i * 1)).take 1 = [.bool (w.getD i default)]
  rw [Nat.mul_one,bvs_one hi]; rfl⟩
theorem okB:ElemOk Try.prog #[58,58] 4 boolE.sz:=⟨⟨58,58,_,Try.t4,.bool false,rfl,rfl,Try.underlying58,Try.underlying58,rfl,by kernel_rfl,by kernel_rfl,by kernel_rfl,by kernel_rfl,of_decide_eq_true (by kernel_rfl)⟩,by show 0 < 1; decide⟩
theorem copyB {H:Heap} (hg:Grp H) {r0:Nat} {w:List Bool} (o0:Own H r0 4 (bvs w)) (hw:w.length ≤ 1000) :
    ∃ av H2,aAppend Try.prog H #[58,58] (.slice none 0 0) (.slice (some ⟨r0,0,none⟩) w.length w.length) = some (.slice av w.length w.length,H2) ∧ BK H H2 av w w.length:=by
  have hob:=(LstG.nil (α:=Bool) (E:=boolE) (e:=4) (L:=H.size) (H:=H)).put (P:=Try.prog) (ts:=#[58,58]) okB (stable_bool 0) hg (Nat.le_refl _) (x:=.slice (some ⟨r0,0,none⟩) w.length w.length) (n:=w.length) (new:=bvs w) (ys:=w) rfl (by
    show cond (Nat.beq (w.length * 1) 0) (some []) (H.read r0 0 (w.length * 1)) = some (bvs w);rw [Nat.mul_one];cases w with
    | nil => rfl
    | cons z w =>
      rw [Trie.beq_ff (by simp),cond_false,o0.read (o:=0) (n:=(z :: w).length) (by rw [bvs_len]; omega),List.drop_zero,List.take_of_length_le (by rw [bvs_len]; omega)]) rfl (bvs_ones w) (bvs_chunks H w) (by simp; omega)
  obtain ⟨v2,H2,h1,h2,h3⟩:=hob;rw [List.nil_append] at h2;have hk:=h3.base H hg (Keep.refl _) (Nat.le_refl _);obtain ⟨av,rfl⟩:=h2.isv;refine ⟨av,H2,h1,hk,rfl,fun h0 => ?_⟩
  rcases h2 with ⟨rfl,_⟩ | ⟨b,r,cells,hb,hl,ha,hf,hv,hp,hc⟩
  · exact absurd h0 (Nat.lt_irrefl 0)
  · obtain rfl:=chunksB hc;cases hv;exact ⟨b,r,rfl,hk,hb,ha.ge,hg,(fun x hx => by cases hx),.inr ⟨rfl,ha,hf⟩⟩
theorem BK.sl {A X:Heap} {av:Option Addr} {w:List Bool} {n:Nat} (h:BK A X av w n) (hn:n ≤ 1000):∃ r,SlE boolE X (.slice av w.length w.length) w r 0:=by
  by_cases h0:0 < n
  · obtain ⟨b,r,rfl,ha⟩:=h.row h0;refine ⟨r,⟨_,_,rfl,fun _ => rfl⟩,fun i hi => ⟨[.bool (w.getD i false)],?_,?_⟩,fun _ => ha.lt,by have:=h.len; have:Go.maxLen = 9223372036854775807:=rfl; omega⟩
    · have h1:=arrB_read ha hi;rwa [show 0 + i * boolE.sz = i by show 0 + i * 1 = i; omega]
    · show [Value.bool (w.getD i false)] = [.bool (w.getD i default)]; rfl
  · have hw:w.length = 0:=by have:=h.len; omega
    exact ⟨0,⟨_,_,rfl,fun h => by omega⟩,fun i hi => by omega,fun h => by omega,by have:Go.maxLen = 9223372036854775807:=rfl; omega⟩

variable {S:AM.Sys} (hS:Only S 11)
include hS

def PostCn (ls:List Lg) (ch:Int) (B:Lg → Prop) (A:Heap) (u:Value) (H':Heap):Prop:=
  ∃ av w r,u = .slice av ls.length ls.length ∧ Keep A H' ∧ AllR ls ch B w ∧ SlE boolE H' u w r 0
set_option maxHeartbeats 8000000 in
theorem rCan_runs (ls:List Lg) (a:Option Addr) (c r o:Nat) (ch:Int) (B:Lg → Prop) (H:Heap) (r0:Nat) (w0:List Bool) (hg:Grp H) (hL:H.low ≤ H.size) (h60:ls.length ≤ 60) (hl:SlG H (.slice a ls.length c) ls r o) (hfit:∀ i,i < ls.length → Fit ch (ls.getD i default))
    (o0:Own H r0 4 (bvs w0)) (hw0:w0.length = ls.length) (hB:∀ j,j < ls.length → (w0.getD j false = true ↔ B (ls.getD j default))) :
    ∃ u H',Runs Try.prog S (.fn 43) [.slice a ls.length c,.int .i64 ch,.slice (some ⟨r0,0,none⟩) ls.length ls.length] H u H' ∧ PostCn ls ch B H u H':=by
  suffices h:WCall Try.prog S (.fn 43) [.slice a ls.length c,.int .i64 ch,.slice (some ⟨r0,0,none⟩) ls.length ls.length] H (fun u H' => PostCn ls ch B H u H') by
    obtain ⟨u,H',hr,h⟩:=h; exact ⟨u,H',hr,h⟩
  have hob:=copyB hg o0 (by omega)
  rw [hw0] at hob;obtain ⟨av,H2,ap1,bk0⟩:=hob;have hsome0:SomeR ls ch B w0:=fun j hj h => ⟨0,j,[],hj,(hB j hj).1 h,rfl,rfl⟩
  have hfst0:FirstR ls B w0:=fun j hj hx => (hB j hj).2 hx
  clear o0 hB hw0;refine Zabc Try.func43 rfl (Nat.le_of_ble_eq_true rfl) (hS.no rfl _ _) ?_
  rw [Try.ntmps43,Try.results43]
  repeat' (first | simp only [↓Zabz,↓Zacb,↓Zaaj,↓Zabw,↓Zaca,↓Zacy,↓Zacx,↓Zadd,↓Zaaw,↓Zaan,↓Zaam,↓bxPut,↓Zabu,↓Zabs,↓Zadb,↓Zadc,↓Zade,↓Zabi,↓Zabg,Zacz,Zabo,↓reduceIte,Nat.reduceEqDiff,Nat.reduceLT, *,argF,List.getD_cons_zero,List.getD_cons_succ])
  refine sxL_of (fun m ρ Y => ∃ (w1:List Bool) (ag:Bool),m = 2 * opn w1 + (if ag then 1 else 0) ∧ BK H Y av w1 ls.length ∧ SomeR ls ch B w1 ∧ FirstR ls B w1 ∧ (ag = false → ClosedR ls ch w1) ∧
      ρ 0 = .slice a ls.length c ∧ ρ 1 = .int .i64 ch ∧ ρ 7 = .slice av ls.length ls.length ∧ ρ 8 = .bool ag)
    ⟨w0,true,rfl,bk0,hsome0,hfst0,fun h => (by cases h),rfl,rfl,rfl,rfl⟩ ?_
  clear hsome0 hfst0 bk0 ap1;rintro m ρ Y ⟨w1,ag,rfl,bk,hsome,hfst,hcl,e0,e1,e7,e8⟩;cases ag with
  | false =>
    have hall:=AllR.of bk.len hsome hfst (hcl rfl);have hob:=bk.sl (by omega)
    obtain ⟨r9,s9⟩:=hob;rw [bk.len] at s9;have hp:PostCn ls ch B H (.slice av ls.length ls.length) Y:=⟨av,w1,r9,rfl,bk.keep,hall,s9⟩;clear hall s9 bk hsome hfst hcl hl hfit
    repeat' (first | simp only [↓Zacc,↓Zabz,↓Zacb,↓Zaai,↓Zaaj,↓Zabw,↓Zaby,↓Zacy,↓Zacx,↓Zadd,↓Zaaw,↓Zaan,↓bxPut,↓Zabu,↓Zabt,↓Zaaf,↓Zabl,↓Zade,↓Zabi,↓Zabg,Zacv,↓reduceIte,Nat.reduceEqDiff,Nat.reduceLT, *])
  | true =>
    clear hcl
    repeat' (first | simp only [↓Zacc,↓Zabz,↓Zacb,↓Zaai,↓Zaaj,↓Zabw,↓Zaby,↓Zacy,↓Zacx,↓Zadd,↓Zaaw,↓Zaan,↓bxPut,↓Zabu,↓Zabt,↓Zaaf,↓Zabl,↓Zade,↓Zabi,↓Zabg,Zacw,↓reduceIte,Nat.reduceLT, *])
    refine sxL_of (fun m ρ Z => ∃ (i:Nat) (w2:List Bool) (ag:Bool),m = ls.length - i ∧ i ≤ ls.length ∧ BK H Z av w2 ls.length ∧ SomeR ls ch B w2 ∧ FirstR ls B w2 ∧ PassR ls ch w1 w2 ag i 0 ∧
        ρ 0 = .slice a ls.length c ∧ ρ 1 = .int .i64 ch ∧ ρ 7 = .slice av ls.length ls.length ∧ ρ 8 = .bool ag ∧ ρ 9 = .int .i64 (i:Int))
      ⟨0,w1,false,rfl,Nat.zero_le _,bk,hsome,hfst,⟨fun _ => ⟨rfl,fun a ha => absurd ha (Nat.not_lt_zero a),fun b hb => absurd hb (Nat.not_lt_zero b)⟩,fun h => (by cases h)⟩,e0,e1,e7,rfl,rfl⟩ ?_
    clear bk hsome hfst e0 e1 e7 e8 ρ;rintro m ρ Z ⟨i,w2,ag,rfl,hi,bk,hsome,hfst,hps,e0,e1,e7,e8,e9⟩
    by_cases hil:i < ls.length
    case neg =>
      have hil':¬ (i:Int) < (ls.length:Int):=by omega
      have hie:i = ls.length:=Nat.le_antisymm hi (Nat.not_lt.1 hil);rw [hie] at hps;have hcl2:ag = false → ClosedR ls ch w2:=fun h => by
        obtain ⟨h1,h2,_⟩:=hps.1 h;rw [h1]; exact fun x y hx hy h3 h4 => h2 x hx y hy h3 h4
      have hms:2 * opn w2 + (if ag = true then 1 else 0) < 2 * opn w1 + 1:=by
        cases ag with
        | false => rw [(hps.1 rfl).1]; simp
        | true => have:=hps.2 rfl; simp; omega
      clear hps hie hil hi hl hfit
      repeat' (first | simp only [↓Zacc,↓Zabz,↓Zacb,↓Zaai,↓Zaaj,↓Zabw,↓Zaby,↓Zacy,↓Zacx,↓Zadd,↓Zaaw,↓Zaan,↓Zaao,↓Zaau,↓bxPut,↓Zabu,↓Zabt,↓Zaag,↓Zaaf,↓Zabm,↓Zabl,↓Zade,↓Zabi,↓Zabg,Zacz,Zaae,Zabk,Zacv,↓reduceIte,Nat.reduceEqDiff,Nat.reduceLT,dec_F,true_and, *,lenG])
      exact ⟨_,hms,w2,ag,rfl,bk,hsome,hfst,hcl2,rfl⟩
    have hil':(i:Int) < (ls.length:Int):=by omega
    have hwi:IntKind.i64.wrap ((i:Int) + 1) = ((i + 1:Nat):Int):=IntWalk.i64_in _ (by omega)
    repeat' (first | simp only [↓Zacc,↓Zabz,↓Zacb,↓Zaai,↓Zaaj,↓Zabw,↓Zaby,↓Zacy,↓Zacx,↓Zadd,↓Zaaw,↓Zaan,↓Zaao,↓Zaau,↓bxPut,↓Zabu,↓Zabt,↓Zaag,↓Zaaf,↓Zabm,↓Zabl,↓Zade,↓Zabi,↓Zabg,Zacz,Zaae,Zabk,Zacw,↓reduceIte,Nat.reduceEqDiff,Nat.reduceLT,dec_T, *,lenG])
    refine sxL_of (fun m ρ V => ∃ (j:Nat) (w3:List Bool) (ag:Bool),m = ls.length - j ∧ j ≤ ls.length ∧ BK H V av w3 ls.length ∧ SomeR ls ch B w3 ∧ FirstR ls B w3 ∧ PassR ls ch w1 w3 ag i j ∧
        ρ 0 = .slice a ls.length c ∧ ρ 1 = .int .i64 ch ∧ ρ 7 = .slice av ls.length ls.length ∧ ρ 8 = .bool ag ∧ ρ 9 = .int .i64 (i:Int) ∧ ρ 10 = .int .i64 (j:Int))
      ⟨0,w2,ag,rfl,Nat.zero_le _,bk,hsome,hfst,hps,e0,e1,e7,e8,e9,rfl⟩ ?_
    clear bk hsome hfst e0 e1 e7 e8 e9 ρ hps ag;rintro m ρ V ⟨j,w3,ag,rfl,hj,bk,hsome,hfst,hps,e0,e1,e7,e8,e9,e10⟩
    by_cases hjl:j < ls.length
    case neg =>
      have hjl':¬ (j:Int) < (ls.length:Int):=by omega
      have hje:j = ls.length:=Nat.le_antisymm hj (Nat.not_lt.1 hjl);rw [hje] at hps;have hps2:=hps.row;clear hps hje hjl hj hl hfit
      repeat' (first | simp only [↓Zacc,↓Zabx,↓Zabz,↓Zacb,↓Zaai,↓Zabw,↓Zaby,↓Zacy,↓Zacx,↓Zacq,↓Zaak,↓Zacl,↓Zacm,↓Zack,↓Zacn,↓Zacj,↓Zadd,↓Zabb,↓Zaaw,↓Zaan,↓Zaax,↓Zaav,↓Zaay,↓Zaao,↓Zaaz,↓Zaat,↓Zaba,↓Zaau,↓Zada,↓bxPut,↓Zabu,↓Zabt,↓Zaag,↓Zaaf,↓Zabm,↓Zabl,↓Zade,↓Zabi,↓Zabg,↓Zabh,↓dstAt,↓Zabj,Zacz,Zaae,Zabk,Zacd,Zacv,List.nil_append,↓reduceIte,Nat.reduceEqDiff,Nat.reduceLT,dec_F,true_and, *,lenG] | (with_reducible first | refine Zacf (by assumption) (by decide +kernel) ?_ | refine Zace (by decide +kernel) ?_ | refine Zaco (by decide +kernel) ?_ | refine Zach ?_))
      exact ⟨ls.length - (i + 1),by omega,i + 1,w3,ag,rfl,by omega,bk,hsome,hfst,hps2,rfl,rfl⟩
    have hjl':(j:Int) < (ls.length:Int):=by omega
    have hwj:IntKind.i64.wrap ((j:Int) + 1) = ((j + 1:Nat):Int):=IntWalk.i64_in _ (by omega)
    have hLV:=bk.keep.low hL;have hob:=bk.row (by omega)
    obtain ⟨b9,r1,rfl,arr⟩:=hob;have rdi:=arrB_read arr (k:=i) (by rw [bk.len]; exact hil)
    have rdj:=arrB_read arr (k:=j) (by rw [bk.len]; exact hjl)
    have ixi:=ixBn (r:=r1) hil;have ixj:=ixBn (r:=r1) hjl;have hgb:∃ b1 b2,b1 = w3.getD i false ∧ b2 = w3.getD j false:=⟨_,_,rfl,rfl⟩;obtain ⟨b1,b2,hb1,hb2⟩:=hgb;rw [← hb1] at rdi;rw [← hb2] at rdj;cases b1 with
    | false =>
      have hps2:=hps.skip (fun h => by rw [← hb1] at h; cases h)
      clear hps hb1 hb2 hl hfit rdj ixj arr
      repeat' (first | simp only [↓Zacc,↓Zabx,↓Zabz,↓Zacb,↓Zaai,↓Zabw,↓Zaby,↓Zacy,↓Zacx,↓Zacq,↓Zaak,↓Zacl,↓Zacm,↓Zack,↓Zacn,↓Zacj,↓Zacp,↓Zadd,↓Zabb,↓Zaaw,↓Zaan,↓Zaax,↓Zaav,↓Zaay,↓Zaao,↓Zaaz,↓Zaat,↓Zaba,↓Zaau,↓Zada,↓bxPut,↓Zabu,↓Zabt,↓Zaag,↓Zaaf,↓Zabm,↓Zabl,↓Zade,↓Zabi,↓Zabg,↓Zabh,↓dstAt,↓Zabj,Zacz,Zaae,Zabk,Zaac,Zacd,Zact,Zacw,Zacv,List.nil_append,↓reduceIte,Nat.reduceEqDiff,Nat.reduceLT,dec_T,true_and,Zaab,one1,Option.bind_some, *,lenG,ldBo] | (with_reducible first | refine Zacf (by assumption) (by decide +kernel) ?_ | refine Zace (by decide +kernel) ?_ | refine Zaco (by decide +kernel) ?_ | refine Zach ?_))
      exact ⟨ls.length - (j + 1),by omega,j + 1,w3,ag,rfl,by omega,bk,hsome,hfst,hps2,rfl,rfl⟩
    | true =>
    cases b2 with
    | true =>
      have hps2:=hps.skip (fun _ _ => hb2.symm)
      clear hps hb1 hb2 hl hfit arr
      repeat' (first | simp only [↓Zacc,↓Zabx,↓Zabz,↓Zacb,↓Zaai,↓Zabw,↓Zaby,↓Zacy,↓Zacx,↓Zacq,↓Zaak,↓Zacl,↓Zacm,↓Zack,↓Zacn,↓Zacj,↓Zacp,↓Zadd,↓Zabb,↓Zaaw,↓Zaan,↓Zaax,↓Zaav,↓Zaay,↓Zaao,↓Zaaz,↓Zaat,↓Zaba,↓Zaau,↓Zada,↓bxPut,↓Zabu,↓Zabt,↓Zaag,↓Zaaf,↓Zabm,↓Zabl,↓Zade,↓Zabi,↓Zabg,↓Zabh,↓dstAt,↓Zabj,Zacz,Zaae,Zabk,una_nt,Zaad,Zaac,Zacd,Zacu,Zact,Zacw,Zacv,List.nil_append,↓reduceIte,Nat.reduceEqDiff,Nat.reduceLT,dec_T,true_and,Zaab,one1,Option.bind_some, *,lenG,ldBo] | (with_reducible first | refine Zacf (by assumption) (by decide +kernel) ?_ | refine Zace (by decide +kernel) ?_ | refine Zaco (by decide +kernel) ?_ | refine Zach ?_))
      exact ⟨ls.length - (j + 1),by omega,j + 1,w3,ag,rfl,by omega,bk,hsome,hfst,hps2,rfl,rfl⟩
    | false =>
    have hob:=SlG_at (hl.keep bk.keep) hil;obtain ⟨q1,ixg1,rg1,_,_,_,_,rl1⟩:=hob;have hob:=SlG_at (hl.keep bk.keep) hjl;obtain ⟨q2,ixg2,rg2,_,_,_,_,rl2⟩:=hob;have hob:=drawn hLV (joins_runs hS (ls.getD i default) (ls.getD j default) ch (hfit i hil) (V.relow V.size));obtain ⟨V1,V2,k2,l2,f2,fd2⟩:=hob;have bk2:=bk.more k2
    by_cases hjn:jn ls ch i j
    case neg =>
      have hjb:joinB ch (ls.getD i default) (ls.getD j default) = false:=Bool.eq_false_iff.2 hjn;rw [hjb] at f2;have hps2:=hps.skip (fun _ h3 => absurd h3 hjn)
      clear hps hb1 hb2 hl hfit hjn hjb bk k2 arr
      repeat' (first | simp only [↓Zacc,↓Zabx,↓Zabz,↓Zacb,↓Zaai,↓Zabw,↓Zaby,↓Zacy,↓Zacx,↓Zacq,↓Zaak,↓Zacl,↓Zacm,↓Zack,↓Zacn,↓Zacj,↓Zacp,↓Zadd,↓Zabb,↓Zaaw,↓Zaan,↓Zaax,↓Zaav,↓Zaay,↓Zaao,↓Zaaz,↓Zaat,↓Zaba,↓Zaau,↓Zada,↓bxPut,↓Zabu,↓Zabt,↓Zaag,↓Zaaf,↓Zabm,↓Zabl,↓Zade,↓Zabi,↓Zabg,↓Zabh,↓dstAt,↓Zabj,Zacz,Zaae,Zabk,una_nf,Zaad,Zacd,Zacu,Zacw,Zacv,List.map_cons,List.map_nil,List.nil_append,List.append_nil,↓reduceIte,Nat.reduceEqDiff,Nat.reduceLT,dec_T,true_and,Zaab,one1,Option.bind_some,Option.map_some, *,lenG,ldBo,ldG,one1] | (with_reducible first | refine Zacf (by assumption) (by decide +kernel) ?_ | refine Zace (by decide +kernel) ?_ | refine Zaco (by decide +kernel) ?_ | refine Zach ?_))
      exact ⟨ls.length - (j + 1),by omega,j + 1,w3,ag,rfl,by omega,bk2,hsome,hfst,hps2,rfl,rfl⟩
    have hjb:joinB ch (ls.getD i default) (ls.getD j default) = true:=hjn;rw [hjb] at f2;have hps2:=hps.add (by rw [bk.len]; exact hjl) hb2.symm
    have hsome2:=hsome.step hil hjl hb1.symm hjn;have hfst2:=hfst.step bk.len j;have hob:=arrB_store (arr.kept k2) true (o:=j) (by rw [bk.len]; exact hjl)
    obtain ⟨V3,st3,ar3⟩:=hob;have bk3:BK H V3 (some ⟨r1,0,none⟩) (w3.set j true) ls.length:=⟨ar3.keep,by rw [List.length_set]; exact bk.len,fun _ => ⟨_,_,rfl,ar3⟩⟩
    clear hps hb1 hb2 hl hfit hjn hjb bk bk2 k2 hsome hfst arr ar3
    repeat' (first | simp only [↓Zacc,↓Zabx,↓Zabz,↓Zacb,↓Zaai,↓Zabw,↓Zaby,↓Zacy,↓Zacx,↓Zacq,↓Zaak,↓Zacl,↓Zacm,↓Zack,↓Zacn,↓Zacj,↓Zacp,↓Zadd,↓Zabb,↓Zaaw,↓Zaan,↓Zaax,↓Zaav,↓Zaay,↓Zaao,↓Zaaz,↓Zaat,↓Zaba,↓Zaau,↓Zada,↓bxPut,↓Zabu,↓Zabt,↓Zaag,↓Zaaf,↓Zabm,↓Zabl,↓Zade,↓Zabi,↓Zabg,↓Zabh,↓dstAt,↓Zabj,Zacz,Zaae,Zabk,una_nf,Zaad,Zacd,Zacu,Zacw,List.map_cons,List.map_nil,List.nil_append,List.append_nil,↓reduceIte,Nat.reduceEqDiff,Nat.reduceLT,dec_T,true_and,Zaab,one1,Option.bind_some,Option.map_some, *,lenG,ldBo,ldG,one1] | (with_reducible first | refine Zacf (by assumption) (by decide +kernel) ?_ | refine Zace (by decide +kernel) ?_ | refine Zaco (by decide +kernel) ?_ | refine Zach ?_))
    exact ⟨ls.length - (j + 1),by omega,j + 1,_,true,rfl,by omega,bk3,hsome2,hfst2,hps2,rfl,rfl⟩
end Go.Proofs.Yteechkbnccpicaa
