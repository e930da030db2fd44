/- The nearest leg; the shortest journey. -/
import Derived.Test.YteechkbnccpicaaL3
set_option linter.unusedVariables false
set_option linter.unusedSimpArgs false
set_option linter.unusedSectionVars false

namespace Go.Proofs.Yteechkbnccpicaa
open Go Go.AM
set_option maxRecDepth 10000

def KOk (S:AM.Sys) (H0:Heap) (g:FuncId) (pre cs:List Value) (n:Nat) (K:Nat → Bool):Prop:=
  ∀ (H':Heap) (i:Nat),Keep H0 H' → i < n → ∃ H2,Keep H' H2 ∧ Runs Try.prog S (.fn g) (pre ++ [.int .i64 (i:Int)] ++ cs) H' (.bool (K i)) H2
def NearTo (K:Nat → Bool) (d:Array Int) (k:Nat) (z y:Int):Prop:=
  (z = -1 ∧ y = 10060 ∧ ∀ j,j < k → K j = true → ¬ d[j]! < 10060) ∨
  (∃ i:Nat,z = (i:Int) ∧ y = d[i]! ∧ i < k ∧ K i = true ∧ d[i]! < 10060 ∧ ∀ j,j < k → K j = true → d[i]! ≤ d[j]! ∧ (d[i]! = d[j]! → i ≤ j))
theorem NearTo.no {K:Nat → Bool} {d:Array Int} {k:Nat} {z y:Int} (h:NearTo K d k z y) (hn:¬ d[k]! < y ∨ K k = false):NearTo K d (k + 1) z y:=by
  have hlt:∀ j,j < k + 1 → j < k ∨ j = k:=fun j hj => by omega
  rcases h with ⟨h1,h2,h3⟩ | ⟨i,h1,h2,h3,h4,h5,h6⟩
  · refine .inl ⟨h1,h2,fun j hj hK => ?_⟩
    rcases hlt j hj with e | rfl
    · exact h3 j e hK
    · rcases hn with hn | hn
      · rw [h2] at hn; exact hn
      · rw [hn] at hK; cases hK
  · refine .inr ⟨i,h1,h2,by omega,h4,h5,fun j hj hK => ?_⟩
    rcases hlt j hj with e | rfl
    · exact h6 j e hK
    · rcases hn with hn | hn
      · rw [h2] at hn;exact ⟨by omega,fun _ => by omega⟩
      · rw [hn] at hK; cases hK
theorem NearTo.yes {K:Nat → Bool} {d:Array Int} {k:Nat} {z y:Int} (h:NearTo K d k z y) (hn:d[k]! < y) (hK:K k = true):NearTo K d (k + 1) (k:Int) d[k]!:=by
  have hlt:∀ j,j < k + 1 → j < k ∨ j = k:=fun j hj => by omega
  have hy:y ≤ 10060:=by
    rcases h with ⟨h1,h2,h3⟩ | ⟨i,h1,h2,h3,h4,h5,h6⟩ <;> omega
  refine .inr ⟨k,rfl,rfl,Nat.lt_succ_self k,hK,by omega,fun j hj hKj => ?_⟩
  rcases hlt j hj with e | rfl
  · rcases h with ⟨h1,h2,h3⟩ | ⟨i,h1,h2,h3,h4,h5,h6⟩
    · have:=h3 j e hKj;exact ⟨by omega,fun _ => by omega⟩
    · have:=h6 j e hKj;exact ⟨by omega,fun _ => by omega⟩
  · exact ⟨Int.le_refl _,fun _ => Nat.le_refl _⟩
def EndsB (to by':Int) (x:Lg):Prop:=x.t = to ∧ x.a ≤ by'
def BegB (fr at':Int) (x:Lg):Prop:=x.f = fr ∧ at' ≤ x.d
theorem cntOk_of {ls:List Lg} {ch to by':Int} {d:Array Int} (h:∀ i,i < ls.length → LW ls ch (woC to by') 1 i d[i]!):CntOk ls ch (EndsB to by') (fun i => d[i]!) where
  le:=fun i r h1 h2 => by
    have:=(h i h1.lt).1 r h1;unfold woC at this;unfold EndsB at h2;rw [if_pos h2] at this;omega
  att:=fun i hi hc => by
    obtain ⟨r,h1,h2⟩:=(h i hi).2;unfold woC at h2
    by_cases he:(ls.getD (lastN i r) default).t = to ∧ (ls.getD (lastN i r) default).a ≤ by'
    · rw [if_pos he] at h2;exact ⟨r,h1,he,by omega⟩
    · rw [if_neg he] at h2;omega
theorem intI (z:Nat) (hz:z ≤ 1000):(intE .i64).At emptyH (z:Int) [.int .i64 (z:Int)]:=⟨rfl,by
  have m1:IntKind.i64.min = -9223372036854775808:=by decide
  have m2:IntKind.i64.max = 9223372036854775807:=by decide
  rw [m1,m2]; omega⟩
theorem okI:ElemOk Try.prog #[25,25] 3 (intE .i64).sz:=⟨⟨25,25,_,Try.t3,.int .i64 0,rfl,rfl,Try.underlying25,Try.underlying25,rfl,by kernel_rfl,by kernel_rfl,by kernel_rfl,by kernel_rfl,of_decide_eq_true (by kernel_rfl)⟩,by show 0 < 1; decide⟩
def castL (x:List Nat):List Int:=x.map fun i:Nat => (i:Int)
def JL (L:Nat) (H:Heap) (v:Value) (x:List Nat):Prop:=
  (∃ i r,x = [i] ∧ i ≤ 1000 ∧ v = .slice (some ⟨r,0,none⟩) 1 1 ∧ L ≤ r ∧ Own H r 3 [.int .i64 (i:Int)]) ∨ (1 < x.length ∧ LstG (intE .i64) 3 L H v (castL x))
theorem JL.keep {L:Nat} {H H':Heap} {v:Value} {x:List Nat} (h:JL L H v x) (hk:Keep H H'):JL L H' v x:=by
  rcases h with ⟨i,r,h1,h0,h2,h3,h4⟩ | ⟨h1,h2⟩
  · exact .inl ⟨i,r,h1,h0,h2,h3,h4.keep hk⟩
  · exact .inr ⟨h1,h2.keep hk⟩
theorem JL.mono {L L':Nat} {H:Heap} {v:Value} {x:List Nat} (h:JL L H v x) (hL:L' ≤ L):JL L' H v x:=by
  rcases h with ⟨i,r,h1,h0,h2,h3,h4⟩ | ⟨h1,h2⟩
  · exact .inl ⟨i,r,h1,h0,h2,Nat.le_trans hL h3,h4⟩
  · exact .inr ⟨h1,h2.mono hL⟩
theorem castL_snoc (x:List Nat) (j:Nat):castL x ++ [(j:Int)] = castL (x ++ [j]):=by simp [castL]
theorem castL_len (x:List Nat):(castL x).length = x.length:=by simp [castL]
theorem JL.push {L:Nat} {H H0:Heap} {v:Value} {x:List Nat} (h:JL L H v x) (hg:Grp H) (hg0:Grp H0) (hk:Keep H0 H) (hL:H0.size ≤ L) (hL2:L ≤ H.size) {j:Nat} (hj:j ≤ 1000) (hx:x.length ≤ 100000) :
    ∃ v2 H2,aAppend Try.prog (H.newExact [.int .i64 (j:Int)] 3) #[25,25] v (.slice (some ⟨H.size,0,none⟩) 1 1) = some (v2,H2) ∧ JL L H2 v2 (x ++ [j]) ∧ Keep H0 H2:=by
  rcases h with ⟨i,r,rfl,hi,rfl,h3,h4⟩ | ⟨h1,h2⟩
  · have hch:Chunks (intE .i64) H [(i:Int)] [.int .i64 (i:Int)]:=Chunks.one (intI i hi);obtain ⟨v2,H2,k1,k2,k3⟩:=LstG.ofOwn (P:=Try.prog) (E:=intE .i64) (ts:=#[25,25]) (L:=L) okI hg h4 hch (by simp) hL2 (x:=(j:Int)) (intI j hj) (by simp) 3
    exact ⟨v2,H2,k1,.inr ⟨by simp,by simpa [castL] using k2⟩,hk.trans k3⟩
  · obtain ⟨v2,H2,k1,k2,k3⟩:=h2.push (P:=Try.prog) (ts:=#[25,25]) okI (stable_int _ _) hg hL2 (x:=(j:Int)) (intI j hj) rfl (by rw [castL_len]; omega) 3
    rw [castL_snoc] at k2;exact ⟨v2,H2,k1,.inr ⟨by simp; omega,k2⟩,k3.base H0 hg0 hk hL⟩

variable {S:AM.Sys} (hS:Only S 11)
include hS

set_option maxHeartbeats 2000000 in
theorem nearest_runs (H:Heap) (LR n:Nat) (d:Array Int) (g:FuncId) (pre cs:List Value) (K:Nat → Bool) (hO:Own H LR 3 (flat celInt d)) (hd:d.size = n) (hn:n ≤ 60) (hK:KOk S H g pre cs n K) :
    ∃ z y H',Keep H H' ∧ NearTo K d n z y ∧ Runs Try.prog S (.fn 65) [.slice (some ⟨LR,0,none⟩) n n,.func (.func g) ⟨pre⟩ ⟨cs⟩] H (.int .i64 z) H':=by
  suffices h:WCall Try.prog S (.fn 65) [.slice (some ⟨LR,0,none⟩) n n,.func (.func g) ⟨pre⟩ ⟨cs⟩] H (fun u H' => ∃ z y,Keep H H' ∧ NearTo K d n z y ∧ u = .int .i64 z) by
    obtain ⟨_,H',hr,z,y,h1,h2,rfl⟩:=h; exact ⟨z,y,H',h1,h2,hr⟩
  have ny:notYield (.func g) = true:=rfl;refine Zaba Try.func65 rfl (Nat.le_of_ble_eq_true rfl) (hS.no rfl _ _) ?_
  rw [Try.ntmps65,Try.results65]
  repeat' simp only [↓Zabx,↓Zabz,↓Zaaj,↓Zabu,↓Zaby,↓Zacw,↓Zacv,↓Zadb,↓Zaau,↓Zaam,↓Zaas,↓bxPut,↓Zabs,↓Zabq,↓Zacz,↓Zada,↓Zadc,↓Zabg,↓Zabe,Zacx,Zabm,↓reduceIte,Nat.reduceEqDiff,Nat.reduceLT, *,argF,List.getD_cons_zero,lenIs]
  refine sxL_of (fun m ρ H5 => ∃ (k:Nat) (z y:Int),m = n - k ∧ k ≤ n ∧ Keep H H5 ∧ NearTo K d k z y ∧
      ρ 1 = .func (.func g) ⟨pre⟩ ⟨cs⟩ ∧ ρ 5 = .int .i64 z ∧ ρ 6 = .int .i64 y ∧ ρ 9 = .slice (some ⟨LR,0,none⟩) n n ∧ ρ 10 = .int .i64 (n:Int) ∧ ρ 11 = .int .i64 (k:Int))
    ⟨0,-1,10060,rfl,Nat.zero_le _,Keep.refl _,.inl ⟨rfl,rfl,fun j hj => absurd hj (Nat.not_lt_zero j)⟩,rfl,rfl,rfl,rfl,rfl,rfl⟩ ?_
  rintro m ρ H5 ⟨k,z,y,rfl,hk,hK5,hnt,e1,e5,e6,e9,e10,e11⟩
  by_cases hlt:k < n
  · have hlt':(k:Int) < (n:Int):=by omega
    have hw:IntKind.i64.wrap ((k:Int) + 1) = ((k + 1:Nat):Int):=by rw [IntWalk.i64_in _ (by omega)]; omega
    have hixl:Zaaa Try.prog 25 (.slice (some ⟨LR,0,none⟩) n n) (.int .i64 (k:Int)) = some (.pointer (some ⟨LR,k,none⟩)):=by
      rw [ixIs,if_pos ⟨by omega,hlt'⟩,Int.toNat_natCast,Nat.mul_one,Nat.zero_add]
    have hrl:H5.read LR k 1 = some [.int .i64 d[k]!]:=by
      have h1:=(hO.keep hK5).read (o:=k) (n:=1) (by rw [flat_len]; show k + 1 ≤ d.size * 1; omega)
      rw [h1];have h2:=flat_at (C:=celInt) d (i:=k) (by omega)
      have h2:((flat celInt d).drop (k * 1)).take 1 = [.int .i64 d[k]!]:=h2;rw [Nat.mul_one] at h2;rw [h2]
    have hno:=fun h => hnt.no (k:=k) h
    have hyes:=fun h1 h2 => hnt.yes (k:=k) h1 h2
    have hgx:∃ x,x = d[k]!:=⟨_,rfl⟩;obtain ⟨x,hx⟩:=hgx;rw [← hx] at hrl hno hyes
    by_cases hc:x < y
    · have hob:=hK H5 k hK5 hlt;obtain ⟨H6,hK6,hR6⟩:=hob;have f6:=hR6.bx;have hK56:=hK5.trans hK6;have hgb:K k = true ∨ K k = false:=by cases K k <;> simp
      rcases hgb with hb | hb
      · rw [hb] at f6;have hnt':=hyes hc hb;clear hK hnt hno hyes hR6 hK6 hK5 hx hb hO
        repeat' simp only [↓Zaca,↓Zabx,↓Zabz,↓Zaai,↓Zabu,↓Zabw,↓Zacw,↓Zacv,↓Zadb,↓Zaaz,↓Zaau,↓Zaam,↓Zaav,↓Zaat,↓Zaan,↓Zaar,↓Zaay,↓bxPut,↓Zabs,↓Zabr,↓Zaag,↓Zaaf,↓Zabk,↓Zabj,↓Zadc,↓Zabg,↓Zabe,↓dstAt,↓Zabh,Zacx,Zaae,Zabi,Zaad,Zacb,Zacs,Zacu,List.map,↓reduceIte,Nat.reduceEqDiff,Nat.reduceLT,dec_T,true_and,one1,Option.bind_some, *,ldC,one1]
        exact ⟨n - (k + 1),by omega,k + 1,_,_,rfl,by omega,hnt',rfl,rfl,rfl⟩
      · rw [hb] at f6;have hnt':=hno (.inr hb);clear hK hnt hno hyes hR6 hK6 hK5 hx hb hO
        repeat' simp only [↓Zaca,↓Zabx,↓Zabz,↓Zaai,↓Zabu,↓Zabw,↓Zacw,↓Zacv,↓Zadb,↓Zaaz,↓Zaau,↓Zaam,↓Zaav,↓Zaat,↓Zaan,↓Zaar,↓Zaay,↓bxPut,↓Zabs,↓Zabr,↓Zaag,↓Zaaf,↓Zabk,↓Zabj,↓Zadc,↓Zabg,↓Zabe,↓dstAt,↓Zabh,Zacx,Zaae,Zabi,Zaad,Zacb,Zacs,Zacu,Zact,List.map,↓reduceIte,Nat.reduceEqDiff,Nat.reduceLT,dec_T,true_and,one1,Option.bind_some, *,ldC,one1]
        exact ⟨n - (k + 1),by omega,k + 1,z,y,rfl,by omega,hnt',rfl,rfl,rfl⟩
    · have hnt':=hno (.inl hc);clear hK hnt hno hyes hx hO
      repeat' simp only [↓Zaca,↓Zabx,↓Zabz,↓Zaai,↓Zabu,↓Zabw,↓Zacw,↓Zacv,↓Zadb,↓Zaaz,↓Zaau,↓Zaam,↓Zaav,↓Zaat,↓Zaan,↓Zaar,↓Zaay,↓bxPut,↓Zabs,↓Zabr,↓Zaag,↓Zaaf,↓Zabk,↓Zabj,↓Zadc,↓Zabg,↓Zabe,↓dstAt,↓Zabh,Zacx,Zaae,Zabi,Zaac,Zacr,Zacu,Zact,↓reduceIte,Nat.reduceEqDiff,Nat.reduceLT,dec_T,dec_F,true_and,one1,Option.bind_some, *,ldC,one1]
      exact ⟨n - (k + 1),by omega,k + 1,z,y,rfl,by omega,hnt',rfl,rfl,rfl⟩
  · have hke:k = n:=by omega
    subst hke;have hlt':¬ ((k:Int) < (k:Int)):=by omega
    clear hK hO
    repeat' simp only [↓Zaca,↓Zabx,↓Zabz,↓Zaai,↓Zabu,↓Zabw,↓Zacw,↓Zacv,↓Zadb,↓Zaaz,↓Zaau,↓Zaam,↓Zaav,↓Zaat,↓Zaan,↓Zaar,↓Zaay,↓bxPut,↓Zabs,↓Zabr,↓Zaag,↓Zaaf,↓Zabk,↓Zabj,↓Zadc,↓Zabg,↓Zabe,↓dstAt,↓Zabh,Zacx,Zaae,Zabi,Zact,↓reduceIte,Nat.reduceEqDiff,Nat.reduceLT,dec_F,true_and, *]
    exact ⟨z,y,hnt,rfl⟩
end Go.Proofs.Yteechkbnccpicaa

namespace Go.Proofs.Yteechkbnccpicaa
open Go Go.AM

def chg1 (ls:List Lg) (i j:Nat):Nat:=if (ls.getD i default).l = (ls.getD j default).l then 0 else 1
theorem chg1_le (ls:List Lg) (i j:Nat):chg1 ls i j ≤ 1:=by unfold chg1; split <;> omega
def chg (ls:List Lg):Nat → List Nat → Nat
  | _,[] => 0
  | i,j :: r => chg1 ls i j + chg ls j r
theorem chg_snoc (ls:List Lg) (j:Nat):∀ (r:List Nat) (i:Nat),chg ls i (r ++ [j]) = chg ls i r + chg1 ls (lastN i r) j
  | [],i => by simp [chg,lastN]
  | k :: r,i => by
    show chg1 ls i k + chg ls k (r ++ [j]) = chg1 ls i k + chg ls k r + chg1 ls (lastN k r) j;rw [chg_snoc ls j r k]; omega
variable (ls:List Lg) (ch:Int) (B:Lg → Prop)
def CE (j:Nat) (z:Int):Prop:=∃ i r,Ch ls ch i r ∧ B (ls.getD i default) ∧ lastN i r = j ∧ ((chg ls i r:Nat):Int) = z
def CW (j:Nat) (z:Int):Prop:=(∀ y,CE ls ch B j y → z ≤ y) ∧ (z = 10060 ∨ CE ls ch B j z)
def CQ (R:Array Int) (q j:Nat) (z:Int):Prop:=(B (ls.getD j default) ∧ z = 0) ∨ ∃ (s i:Nat) (y:Int),s < q ∧ R[s]! = (i:Int) ∧ i < ls.length ∧ jn ls ch i j ∧ CE ls ch B i y ∧ z = y + chg1 ls i j
def CP (R:Array Int) (q j:Nat) (z:Int):Prop:=(∀ y,CQ ls ch B R q j y → z ≤ y) ∧ (z = 10060 ∨ CQ ls ch B R q j z) ∧ z ≤ 10060
variable {ls ch B}
theorem CE.nn {j:Nat} {z:Int} (h:CE ls ch B j z):0 ≤ z:=by
  obtain ⟨i,r,_,_,_,rfl⟩:=h; omega
theorem CE.step {j:Nat} {z:Int} (hj:j < ls.length):CE ls ch B j z ↔ (B (ls.getD j default) ∧ z = 0) ∨ ∃ (i:Nat) (y:Int),i < ls.length ∧ jn ls ch i j ∧ CE ls ch B i y ∧ z = y + chg1 ls i j:=by
  constructor
  · rintro ⟨i,r,h1,h2,h3,h4⟩;rcases List.eq_nil_or_concat r with rfl | ⟨r',k,rfl⟩
    · simp only [lastN] at h3;subst h3;exact .inl ⟨h2,by simp [chg] at h4; exact h4.symm⟩
    · rw [List.concat_eq_append] at h1 h3 h4;rw [lastN_snoc] at h3;subst h3;obtain ⟨k1,k2,k3⟩:=Ch.snoc.1 h1;refine .inr ⟨lastN i r',((chg ls i r':Nat):Int),k1.last_lt,k2,⟨i,r',k1,h2,rfl,rfl⟩,?_⟩;rw [← h4,chg_snoc]; omega
  · rintro (⟨h1,rfl⟩ | ⟨i,y,h1,h2,⟨i0,r,k1,k2,rfl,rfl⟩,rfl⟩)
    · exact ⟨j,[],hj,h1,rfl,rfl⟩
    · exact ⟨i0,r ++ [j],Ch.snoc.2 ⟨k1,h2,hj⟩,k2,lastN_snoc,by rw [chg_snoc]; omega⟩
theorem CP.start {R:Array Int} {j:Nat} [Decidable (B (ls.getD j default))] : CP ls ch B R 0 j (if B (ls.getD j default) then 0 else 10060):=by
  refine ⟨fun y h => ?_,?_,by split <;> omega⟩
  · rcases h with ⟨h1,rfl⟩ | ⟨s,i,y,h1,_⟩
    · rw [if_pos h1]; exact Int.le_refl _
    · omega
  · split
    · exact .inr (.inl ⟨by assumption,rfl⟩)
    · exact .inl rfl
theorem CQ.succ {R:Array Int} {q j:Nat} {z:Int}:CQ ls ch B R (q + 1) j z ↔ CQ ls ch B R q j z ∨ ∃ (i:Nat) (y:Int),R[q]! = (i:Int) ∧ i < ls.length ∧ jn ls ch i j ∧ CE ls ch B i y ∧ z = y + chg1 ls i j:=by
  constructor
  · rintro (h | ⟨s,i,y,h1,h2,h3⟩)
    · exact .inl (.inl h)
    · rcases Nat.lt_or_ge s q with h | h
      · exact .inl (.inr ⟨s,i,y,h,h2,h3⟩)
      · obtain rfl:s = q:=by omega
        exact .inr ⟨i,y,h2,h3⟩
  · rintro ((h | ⟨s,i,y,h1,h2⟩) | ⟨i,y,h2,h3⟩)
    · exact .inl h
    · exact .inr ⟨s,i,y,by omega,h2⟩
    · exact .inr ⟨q,i,y,by omega,h2,h3⟩
theorem CP.no {R:Array Int} {q j i:Nat} {z:Int} (h:CP ls ch B R q j z) (hq:R[q]! = (i:Int)) (hn:¬ jn ls ch i j):CP ls ch B R (q + 1) j z:=by
  obtain ⟨h1,h2,h3⟩:=h;refine ⟨fun y hy => ?_,h2.imp id fun h => CQ.succ.2 (.inl h),h3⟩
  rcases CQ.succ.1 hy with h | ⟨i',y',k1,k2,k3,_⟩
  · exact h1 y h
  · rw [hq] at k1;obtain rfl:i = i':=by omega
    exact absurd k3 hn
theorem CP.yes {R:Array Int} {q j i:Nat} {z e:Int} (h:CP ls ch B R q j z) (hq:R[q]! = (i:Int)) (hil:i < ls.length) (hy:jn ls ch i j) (he:CW ls ch B i e) (he2:e ≤ 10060):CP ls ch B R (q + 1) j (min z (e + chg1 ls i j)):=by
  obtain ⟨h1,h2,h3⟩:=h;obtain ⟨k1,k2⟩:=he;refine ⟨fun y hy' => ?_,?_,by omega⟩
  · rcases CQ.succ.1 hy' with h | ⟨i',y',m1,m2,m3,m4,rfl⟩
    · have:=h1 y h; omega
    · rw [hq] at m1;obtain rfl:i = i':=by omega
      have:=k1 y' m4; omega
  · rcases Int.le_total z (e + chg1 ls i j) with hle | hle
    · rw [Int.min_eq_left hle];exact h2.imp id fun h => CQ.succ.2 (.inl h)
    · rw [Int.min_eq_right hle];rcases k2 with rfl | k2
      · exact .inl (by omega)
      · exact .inr (CQ.succ.2 (.inr ⟨i,e,hq,hil,hy,k2,rfl⟩))
theorem CP.done {R:Array Int} (hR:OrdOk ls R) (hk:LOk ls ch) {p j:Nat} {z:Int} (hp:p < ls.length) (hj:R[p]! = (j:Int)) (hjl:j < ls.length) (h:CP ls ch B R p j z):CW ls ch B j z:=by
  have he:∀ y,CE ls ch B j y ↔ CQ ls ch B R p j y:=fun y => by
    rw [CE.step hjl];constructor
    · rintro (h | ⟨i,y,h1,h2,h3,h4⟩)
      · exact .inl h
      · obtain ⟨s0,q1,q2⟩:=hR.all i h1;obtain ⟨s,q3,q4,q5⟩:=hR.behind hk q1 q2 h2 hjl h1;have:s = p:=hR.inj s p q4 hp (by rw [q5,hj])
        exact .inr ⟨s0,i,y,by omega,q2,h1,h2,h3,h4⟩
    · rintro (h | ⟨s,i,y,h0,h1,h2⟩)
      · exact .inl h
      · exact .inr ⟨i,y,h2⟩
  exact ⟨fun y hy => h.1 y ((he y).1 hy),h.2.1.imp id fun h => (he z).2 h⟩
def TP (ls:List Lg) (ch:Int) (B E:Lg → Prop) (x y:Int):Prop:=∃ i r,Ch ls ch i r ∧ B (ls.getD i default) ∧ E (ls.getD (lastN i r) default) ∧ ((chg ls i r:Nat):Int) = x ∧ (ls.getD (lastN i r) default).a = y
end Go.Proofs.Yteechkbnccpicaa

namespace Go.Proofs.Yteechkbnccpicaa
open Go Go.AM
set_option maxRecDepth 10000

theorem u64_in (n:Nat) (h:n < 61):IntKind.u64.wrap (n:Int) = (n:Int):=IntWalk.u64_in _ (by omega)

variable {S:AM.Sys} (hS:Only S 11)
include hS

end Go.Proofs.Yteechkbnccpicaa
