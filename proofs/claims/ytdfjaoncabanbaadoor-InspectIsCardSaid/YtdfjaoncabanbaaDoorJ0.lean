/- Columns that grow side by side: rows of a matrix that append makes, each in a group of its own. -/
import Derived.Test.YtdfjaoncabanbaaDoorIC
set_option linter.unusedVariables false
set_option linter.unusedSimpArgs false
set_option linter.unusedSectionVars false

namespace Go.Proofs.YtdfjaoncabanbaaDoor
open Go Go.AM
set_option maxRecDepth 10000

def CB (b L:Nat) (X:Heap) (v:Value) (x:List Int):Prop:=
  (x = [] ∧ v = .slice none 0 0) ∨ ∃ r cells,L ≤ b ∧ b < X.size ∧ App X b r 3 1 cells ∧ Full X b cells.length ∧ v = .slice (some ⟨r,0,none⟩) x.length x.length ∧ 0 < x.length ∧ Chunks (intE .i64) X x cells
theorem CB.lst {b L:Nat} {X:Heap} {v:Value} {x:List Int} (h:CB b L X v x):LstG (intE .i64) 3 L X v x:=by
  rcases h with h | ⟨r,cells,h1,h2,h3,h4⟩
  · exact .inl h
  · exact .inr ⟨b,r,cells,h1,h2,h3,h4⟩
theorem CB.keep {b L:Nat} {X Y:Heap} {v:Value} {x:List Int} (h:CB b L X v x) (hk:Keep X Y):CB b L Y v x:=by
  rcases h with h | ⟨r,cells,h1,h2,h3,h4,h5,h6,h7⟩
  · exact .inl h
  · exact .inr ⟨r,cells,h1,Nat.lt_of_lt_of_le h2 hk.size,h3.keep hk,h4.ge (Nat.zero_le _) (hk.ge 0) (hk.mem _ (by omega)),h5,h6,h7.mono fun _ _ => (intE .i64).keep hk⟩
theorem CB.ge {b L M:Nat} {X Y:Heap} {v:Value} {x:List Int} (h:CB b L X v x) (hM:M ≤ L) (hk:Ge M X Y) (hm:x ≠ [] → Y.grps.get (2 * b + 1) = X.grps.get (2 * b + 1)):CB b L Y v x:=by
  rcases h with h | ⟨r,cells,h1,h2,h3,h4,h5,h6,h7⟩
  · exact .inl h
  · exact .inr ⟨r,cells,h1,Nat.lt_of_lt_of_le h2 hk.size,h3.geH (by omega) hk,h4.ge (by omega) hk (hm (List.length_pos_iff.1 h6)),h5,h6,h7.mono fun _ _ h => h⟩
theorem CB.push {b L:Nat} {X:Heap} {v:Value} {x:List Int} (hg:Grp X) (h:CB b L X v x) (hL:L ≤ X.size) (z:Int) (hz:IntKind.i64.min ≤ z ∧ z ≤ IntKind.i64.max) (hs:x.length + 1 ≤ 1000) :
    ∃ b2 v2 X2,aAppend Tryd.prog (X.newExact [.int .i64 z] 3) #[25,25] v (.slice (some ⟨X.size,0,none⟩) 1 1) = some (v2,X2) ∧ CB b2 L X2 v2 (x ++ [z]) ∧ Ge 0 X X2 ∧ Grp X2 ∧ (X.low ≤ X.size → X2.low ≤ X2.size) ∧
      (∀ H0,Grp H0 → Keep H0 X → H0.size ≤ L → Keep H0 X2) ∧ (∀ g,g < 2 * X.size → g ≠ 2 * b2 + 1 → X2.grps.get g = X.grps.get g) ∧ (X.size ≤ b2 ∨ (b2 = b ∧ x ≠ [])):=by
  have hkn:=Keep.newExact X [.int .i64 z] 3;have hon:=Own.new X [.int .i64 z] 3;have hgn:=hkn.grp hg;have hread:(X.newExact [.int .i64 z] 3).read X.size 0 (1 * 1) = some [.int .i64 z]:=hon.read (o:=0) (n:=1) (Nat.le_refl 1);have hch:Chunks (intE .i64) (X.newExact [.int .i64 z] 3) [z] [.int .i64 z]:=Chunks.one ⟨rfl,hz⟩;have hn:=h.keep hkn;generalize hX1:X.newExact [.int .i64 z] 3 = X1 at *;have hsz:X.size ≤ X1.size:=hkn.size;obtain ⟨⟨sT,xT,d,inf,zz,q1,q2,q3,q4,q5,q6,q7,q8,q9,q10⟩,hp⟩:=okI;have hfst:aFirst X1 1 1 (.slice (some ⟨X.size,0,none⟩) 1 1) = some [.int .i64 z]:=by
    show cond (Nat.beq (1 * 1) 0) (some []) (X1.read X.size 0 (1 * 1)) = some [.int .i64 z];rw [show Nat.beq (1 * 1) 0 = false from rfl,cond_false]; exact hread
  have hn1:lenV (.slice (some ⟨X.size,0,none⟩) 1 1) = some 1:=rfl;rcases hn with ⟨rfl,rfl⟩ | ⟨r,cells,h1,h2,h3,h4,rfl,h6,h7⟩
  · obtain ⟨hk,hA⟩:=App.first (P:=Tryd.prog) hgn (e:=3) (sz:=1) (cells:=[.int .i64 z]);have hkk:=hkn.trans hk;refine ⟨X1.size,_,_,?_,.inr ⟨X1.size,[.int .i64 z],by omega,hA.lt,hA,?_,rfl,by simp,?_⟩,hkk.ge 0,hkk.grp hg,hkk.low,fun H0 _ k _ => k.trans hkk,fun g hg' _ => hkk.mem g hg',.inl hsz⟩
    · unfold aAppend;rw [q1,q2];simp only [q3,q4,q5,q6,hn1,q7,q9];rw [hfst];simp only [];rw [Trie.beq_tt (q8.trans q9),show Nat.blt 0 1 = true from rfl,show small 1 inf.bytes = true by unfold small; rw [Nat.ble_eq_true_of_le (show 1 ≤ 268435456 by omega),Nat.ble_eq_true_of_le q10]; rfl]
      rfl
    · intro q hq;rw [Heap.add_grps,cond_false,Trie.get_put,if_pos rfl,Option.getD_some] at hq;obtain rfl:=memN_single hq;exact ⟨_,hA.get,rfl,by simp,hA.lt,Nat.le_refl _⟩
    · exact hch.mono fun _ _ h => h
  · have hcl:cells.length = x.length * 1:=h7.1;obtain ⟨H2,e2,k1,k2,k3,k4,_⟩:=h3.more (new:=[.int .i64 z]) hgn;obtain ⟨f1,f2⟩:=h3.fullG (new:=[.int .i64 z]) h4;rw [e2] at f1 f2;have hlt:=h3.lt;refine ⟨b,_,H2,?_,.inr ⟨X1.size,cells ++ [.int .i64 z],h1,by omega,k1,f2,rfl,by simp,?_⟩,(hkn.ge 0).trans f1,k4,fun hl => ?_,fun H0 g0 hk hl0 => k3 H0 g0 (hk.trans hkn) (by omega),fun g hg1 hg2 => ?_,.inr ⟨rfl,List.length_pos_iff.1 h6⟩⟩
    · unfold aAppend;rw [q1,q2];simp only [q3,q4,q5,q6,hn1,q7,q9];rw [hfst];simp only [];rw [Trie.beq_tt (q8.trans q9),show Nat.blt 0 1 = true from rfl,show small (x.length + 1) inf.bytes = true by unfold small; rw [Nat.ble_eq_true_of_le (show x.length + 1 ≤ 268435456 by omega),Nat.ble_eq_true_of_le q10]; rfl]
      simp only [Bool.and_self,cond_true];unfold aAppendSome;rw [h3.get];simp only []
      rw [show Nat.beq 1 0 = false from rfl,cond_false,show Nat.ble (x.length + 1) x.length = false by
        cases hq:Nat.ble (x.length + 1) x.length with
        | false => rfl
        | true => have:=Nat.le_of_ble_eq_true hq; omega,Bool.false_and,cond_false,cond_false,h3.alive,Trie.beq_tt rfl,Trie.beq_tt rfl,show ones [Value.int .i64 z] = true from rfl,Nat.ble_eq_true_of_le (Nat.le_refl x.length),show Nat.ble (0 + x.length * 1) cells.length = true from Nat.ble_eq_true_of_le (by omega)]
      simp only [Bool.and_self,cond_true];rw [← hcl,e2,List.length_append];rfl
    · exact (h7.append hch).mono fun _ _ h => h
    · rw [← e2,Heap.grow_size];have h1:=(grow_low (H:=X1) (r:=r) (row:={ cells:=cells,elem:=3,exact:=false,ro:=false,esz:=1,grp:=2 * b + 1,gpos:=0 }) (off:=0) (n:=cells.length) (vs:=[.int .i64 z])).1;have:=hkn.low hl;omega
    · have hm1:X1.grps.get g = X.grps.get g:=hkn.mem g hg1;rw [← hm1,← e2,Heap.grow_grps,Trie.get_put,if_neg (by show ¬ g = 2 * b + 1; omega)]
structure TW (A X:Heap) (nr:Nat) (w:List (List Int)) (n:Nat):Prop where
  keep:Keep A X
  grp:Grp X
  low:A.low ≤ A.size → X.low ≤ X.size
  len:w.length = n
  row:∃ (vals:List Value) (bs:Nat → Nat),vals.length = n ∧ Own X nr 25 vals ∧ (∀ i,i < n → CB (bs i) (nr + 1) X (vals.getD i (.slice none 0 0)) (w.getD i [])) ∧ (∀ i j,i < n → j < n → i ≠ j → w.getD i [] ≠ [] → w.getD j [] ≠ [] → bs i ≠ bs j)
theorem TW.get {A X:Heap} {nr n:Nat} {w:List (List Int)} (h:TW A X nr w n) {i:Nat} (hi:i < n):∃ v,X.read nr i 1 = some [v]:=by
  obtain ⟨vals,bs,h1,h2,h3,_⟩:=h.row;refine ⟨vals.getD i (.slice none 0 0),?_⟩;rw [h2.read (o:=i) (n:=1) (by omega),List.drop_eq_getElem_cons (by omega),List.getD_eq_getElem?_getD,List.getElem?_eq_getElem (by omega)]; rfl
theorem setDl {α:Type} {l:List α} {i j:Nat} {x d:α} (hi:i < l.length):(l.set i x).getD j d = if i = j then x else l.getD j d:=by
  rw [List.getD_eq_getElem?_getD,List.getElem?_set];split
  · rfl
  · rw [List.getD_eq_getElem?_getD]
theorem splice_one {vals:List Value} {o:Nat} (ho:o < vals.length) (v:Value):splice vals o [v] = vals.set o v:=by
  unfold splice;apply List.ext_getElem?;intro i;simp only [List.length_cons,List.length_nil];rw [List.getElem?_set];rcases Nat.lt_trichotomy i o with h | h | h
  · rw [List.getElem?_append_left (by simp; omega),List.getElem?_take,if_pos h,if_neg (by omega)]
  · subst h;rw [List.getElem?_append_right (by simp; omega),if_pos rfl,if_pos ho]
    rw [List.length_take,Nat.min_eq_left (Nat.le_of_lt ho),Nat.sub_self]; rfl
  · rw [List.getElem?_append_right (by simp; omega),if_neg (by omega),List.getElem?_append_right (by simp; omega),List.getElem?_drop]
    congr 1;simp; omega
theorem TW.push {A X:Heap} {nr n:Nat} {w:List (List Int)} (h:TW A X nr w n) (hg:Grp A) (hr:A.size ≤ nr) {i:Nat} (hi:i < n) (z:Int) (hz:IntKind.i64.min ≤ z ∧ z ≤ IntKind.i64.max) (hs:(w.getD i []).length + 1 ≤ 1000) :
    ∃ v v2 X2 X3,X.read nr i 1 = some [v] ∧ aAppend Tryd.prog (X.newExact [.int .i64 z] 3) #[25,25] v (.slice (some ⟨X.size,0,none⟩) 1 1) = some (v2,X2) ∧
      aStore Tryd.prog X2 25 (.pointer (some ⟨nr,i,none⟩)) v2 = some X3 ∧ TW A X3 nr (w.set i (w.getD i [] ++ [z])) n:=by
  obtain ⟨vals,bs,h1,h2,h3,h5⟩:=h.row;have hrd:X.read nr i 1 = some [vals.getD i (.slice none 0 0)]:=by
    rw [h2.read (o:=i) (n:=1) (by omega),List.drop_eq_getElem_cons (by omega),List.getD_eq_getElem?_getD,List.getElem?_eq_getElem (by omega)]; rfl
  have hlt:=h2.lt;obtain ⟨b2,v2,X2,p1,p2,p3,p4,p5,p6,p7,p8⟩:=(h3 i hi).push h.grp hlt z hz hs;have ow2:Own X2 nr 25 vals:=h2.ge (Nat.zero_le _) p3;have hv2:∃ a m c,v2 = .slice a m c:=by
    rcases p2 with ⟨_,e⟩ | ⟨r,cells,_,_,_,_,e,_⟩
    · exact ⟨_,_,_,e⟩
    · exact ⟨_,_,_,e⟩
  obtain ⟨a,m,c,rfl⟩:=hv2;obtain ⟨X3,k1,k2,k3,_⟩:=ow2.storeX (P:=Tryd.prog) (t:=25) (i:=Tryd.t25) (by kernel_rfl) (v:=.slice a m c) (new:=[.slice a m c]) rfl (by kernel_rfl) rfl (o:=i) (by show i + 1 ≤ vals.length; omega)
  rw [splice_one (by omega)] at k2
  have kA:Keep A X2:=p6 A hg h.keep (by omega)
  have kA3:Keep A X3:=k3.base A hg kA hr;have hwl:=h.len;have hoth:∀ j,j < n → j ≠ i → CB (bs j) (nr + 1) X2 (vals.getD j (.slice none 0 0)) (w.getD j []):=fun j hj hji => by
    refine (h3 j hj).ge (Nat.zero_le _) p3 fun hne => ?_
    have hbl:bs j < X.size:=by
      rcases h3 j hj with ⟨e,_⟩ | ⟨_,_,_,hb,_⟩
      · exact absurd e hne
      · exact hb
    refine p7 _ (by omega) fun he => ?_
    rcases p8 with h8 | ⟨h8,h9⟩
    · omega
    · have:=h5 j i hj hi hji hne h9; omega
  have hother:∀ j,j < n → j ≠ i → w.getD j [] ≠ [] → bs j ≠ b2:=fun j hj hji hne he => by
    have hbl:bs j < X.size:=by
      rcases h3 j hj with ⟨e,_⟩ | ⟨_,_,_,hb,_⟩
      · exact absurd e hne
      · exact hb
    rcases p8 with h8 | ⟨h8,h9⟩
    · omega
    · have:=h5 j i hj hi hji hne h9; omega
  refine ⟨_,_,X2,X3,hrd,p1,k1,⟨kA3,k3.grp p4,fun hl => k3.low (p5 (h.low hl)),by rw [List.length_set]; exact hwl,vals.set i (.slice a m c),fun j => if j = i then b2 else bs j,by rw [List.length_set]; exact h1,k2,fun j hj => ?_,fun j k hj hk hjk e1 e2 => ?_⟩⟩
  · show CB (if j = i then b2 else bs j) _ _ _ _
    rw [setDl (by omega),setDl (by omega)]
    by_cases hji:j = i
    · subst hji;rw [if_pos rfl,if_pos rfl,if_pos rfl]
      exact p2.ge (Nat.le_refl _) k3.ge fun hne => k3.mem _ (by
        rcases p2 with ⟨e,_⟩ | ⟨_,_,_,hb,_⟩
        · simp at e
        · omega)
    · rw [if_neg hji,if_neg (Ne.symm hji),if_neg (Ne.symm hji)]
      exact (hoth j hj hji).ge (Nat.le_refl _) k3.ge fun hne => k3.mem _ (by
        rcases hoth j hj hji with ⟨e,_⟩ | ⟨_,_,_,hb,_⟩
        · exact absurd e hne
        · omega)
  · show (if j = i then b2 else bs j) ≠ (if k = i then b2 else bs k)
    rw [setDl (by omega)] at e1 e2
    by_cases hji:j = i
    · subst hji;rw [if_pos rfl,if_neg (Ne.symm hjk)];rw [if_neg hjk] at e2;exact (hother k hk (Ne.symm hjk) e2).symm
    · rw [if_neg hji];rw [if_neg (Ne.symm hji)] at e1
      by_cases hki:k = i
      · subst hki;rw [if_pos rfl];exact hother j hj hji e1
      · rw [if_neg hki];rw [if_neg (Ne.symm hki)] at e2;exact h5 j k hj hk hjk e1 e2
theorem TW.sl {A X:Heap} {nr n:Nat} {w:List (List Int)} (h:TW A X nr w n) (hn:n ≤ 1000) (hw:∀ i,i < n → (w.getD i []).length ≤ 1000):SlG X (.slice (some ⟨nr,0,none⟩) n n) w nr 0:=by
  obtain ⟨vals,bs,h1,h2,h3,_⟩:=h.row;have hl:=h.len;refine ⟨⟨_,_,by rw [hl],fun _ => rfl⟩,fun i hi => ?_,fun _ => h2.lt,by have:Go.maxLen = 9223372036854775807:=rfl; omega⟩
  have hrd:X.read nr i 1 = some [vals.getD i (.slice none 0 0)]:=by
    rw [h2.read (o:=i) (n:=1) (by omega),List.drop_eq_getElem_cons (by omega),List.getD_eq_getElem?_getD,List.getElem?_eq_getElem (by omega)]; rfl
  have e1:0 + i * (sliceE (intE .i64)).sz = i:=by show 0 + i * 1 = i; omega
  rw [e1];obtain ⟨r,hs,_⟩:=(h3 i (by omega)).lst.sl (by have:=hw i (by omega); have:Go.maxLen = 9223372036854775807:=rfl; omega)
  exact ⟨_,hrd,_,r,0,rfl,hs⟩
theorem mkG (H:Heap) (hg:Grp H) {n:Nat} (h:n ≤ 60):∃ H2,aMakeSlice Tryd.prog H 22 (.int .i64 (n:Int)) (.int .i64 (n:Int)) = some (.slice (some ⟨H.size,0,none⟩) n n,H2) ∧ TW H H2 H.size (List.replicate n []) n:=by
  have h2:=makeSlice_eq (P:=Tryd.prog) (t:=22) (e:=25) (inf:=Tryd.t25) (z:=.slice none 0 0) Tryd.underlying22 (by kernel_rfl) (by kernel_rfl) rfl (by kernel_rfl) (of_decide_eq_true (by kernel_rfl)) H .i64 .i64 (l:=(n:Int)) (by omega) (by omega)
  have h3:Tryd.t25.size = 1:=by kernel_rfl
  rw [h3,Nat.mul_one,Int.toNat_natCast] at h2;have hk:=Keep.newExact H (List.replicate n (Value.slice none 0 0)) 25;refine ⟨_,h2,hk,hk.grp hg,hk.low,by simp,List.replicate n (.slice none 0 0),fun _ => 0,by simp,Own.new _ _ _,fun i hi => ?_,fun i j _ _ _ e1 => ?_⟩
  · have e1:(List.replicate n (Value.slice none 0 0)).getD i (.slice none 0 0) = .slice none 0 0:=by rw [List.getD_eq_getElem?_getD,List.getElem?_replicate]; split <;> rfl
    have e2:(List.replicate n ([] : List Int)).getD i [] = []:=by rw [List.getD_eq_getElem?_getD,List.getElem?_replicate]; split <;> rfl
    rw [e1,e2];exact .inl ⟨rfl,rfl⟩
  · rw [List.getD_eq_getElem?_getD,List.getElem?_replicate] at e1;exact absurd (by split <;> rfl) e1
end Go.Proofs.YtdfjaoncabanbaaDoor

namespace Go.Proofs.YtdfjaoncabanbaaDoor
open Go Go.AM
set_option maxRecDepth 10000

def colT (g:List (List Int)) (k i:Nat):List Int:=(List.range i).map fun p => (g.getD p []).getD k 0
theorem colT_succ (g:List (List Int)) (k i:Nat):colT g k (i + 1) = colT g k i ++ [(g.getD i []).getD k 0]:=by simp [colT,List.range_succ]
theorem colT_len (g:List (List Int)) (k i:Nat):(colT g k i).length = i:=by simp [colT]
theorem colT_at (g:List (List Int)) (k:Nat) {i p:Nat} (h:p < i):(colT g k i).getD p 0 = (g.getD p []).getD k 0:=by
  unfold colT;rw [List.getD_eq_getElem?_getD,List.getElem?_map,List.getElem?_range h]; rfl
def ColS (g w:List (List Int)) (n i j:Nat):Prop:=∀ k,k < n → w.getD k [] = colT g k (if k < j then i + 1 else i)
theorem ColS.next {g w:List (List Int)} {n i:Nat} (h:ColS g w n i n):ColS g w n (i + 1) 0:=fun k hk => by
  have:=h k hk;rw [if_pos hk] at this;rw [if_neg (Nat.not_lt_zero k)]; exact this
theorem ColS.step {g w:List (List Int)} {n i j:Nat} (h:ColS g w n i j) (hj:j < n) (hl:w.length = n):ColS g (w.set j (w.getD j [] ++ [(g.getD i []).getD j 0])) n i (j + 1):=fun k hk => by
  rw [setDl (by omega)]
  by_cases hkj:j = k
  · subst hkj;have:=h j hk;rw [if_neg (Nat.lt_irrefl j)] at this;rw [if_pos rfl,if_pos (Nat.lt_succ_self j),this,colT_succ]
  · have:=h k hk;rw [if_neg hkj,this]
    by_cases h1:k < j
    · rw [if_pos h1,if_pos (by omega)]
    · rw [if_neg h1,if_neg (by omega)]

theorem bsI1 (H:Heap) (z:Int):aBuildSlice Tryd.prog H 25 1 [(0,.int .i64 z)] = some (.slice (some ⟨H.size,0,none⟩) 1 1,H.newExact [.int .i64 z] 3):=by kernel_rfl

variable {S:AM.Sys} (hS:Only S 5)
include hS

set_option maxHeartbeats 4000000 in
theorem turned_runs (g:List (List Int)) (gv:Value) (r o:Nat) (n:Nat) (H:Heap) (hgr:Grp H) (hL:H.low ≤ H.size) (hg:SlG H gv g r o) (h0:0 < g.length) (hgl:g.length ≤ 50) (hn:n ≤ 50)
    (hrow:∀ i,i < g.length → (g.getD i []).length = n) :
    ∃ u H' w,Runs Tryd.prog S (.fn 16) [gv] H u H' ∧ Keep H H' ∧ SlG H' u w H.size 0 ∧ w.length = n ∧ ∀ k,k < n → w.getD k [] = colT g k g.length:=by
  suffices h:WCall Tryd.prog S (.fn 16) [gv] H (fun u H' => ∃ w,Keep H H' ∧ SlG H' u w H.size 0 ∧ w.length = n ∧ ∀ k,k < n → w.getD k [] = colT g k g.length) by
    obtain ⟨u,H',hr,w,h⟩:=h; exact ⟨u,H',w,hr,h⟩
  obtain ⟨a,cap,rfl⟩:=hg.v0;obtain ⟨H1,mk,tw⟩:=mkG H hgr (show n ≤ 60 by omega)
  have hob:=SlG_at hg (k:=0) h0;obtain ⟨ix0,xv0,r00,o00,rd00,s00⟩:=hob;obtain ⟨a00,c00,rfl⟩:=s00.v0;have ix0:aIndexAt Tryd.prog 22 (.slice a g.length cap) (.int .i64 0) = some (.pointer (some ⟨r,o,none⟩)):=ix0;have hl0:(g.getD 0 default).length = n:=hrow 0 h0;have rd00:H.read r o 1 = some [.slice a00 (g.getD 0 default).length c00]:=rd00;rw [hl0] at rd00;have cs0:ColS g (List.replicate n []) n 0 0:=fun k hk => by
    rw [if_neg (Nat.not_lt_zero k),List.getD_eq_getElem?_getD,List.getElem?_replicate]; split <;> rfl
  refine Zaaw Tryd.func16 rfl (Nat.le_of_ble_eq_true rfl) (hS.no rfl _ _) ?_
  rw [Tryd.ntmps16,Tryd.results16];clear hl0 s00
  repeat' simp only [↓Zabo,↓Zabq,↓Zaah,↓Zabl,↓Zabp,↓Zaci,↓Zach,↓Zacn,↓Zaar,↓Zaaj,↓Zaaq,↓bxOp_makeSlice,↓Zaao,↓Zaap,↓bxPut,↓Zabj,↓Zabh,↓Zacl,↓Zacm,↓Zaco,↓Zaba,↓Zaay,Zacj,Zabf,↓reduceIte,Nat.reduceEqDiff,Nat.reduceLT,one1,Option.bind_some, *,argF,List.getD_cons_zero,lenG,lenI,ldIs]
  refine sxL_of (fun m ρ X => ∃ (i:Nat) (w:List (List Int)),m = g.length - i ∧ i ≤ g.length ∧ TW H X H.size w n ∧ ColS g w n i 0 ∧ ρ 3 = .slice (some ⟨H.size,0,none⟩) n n ∧ ρ 13 = .slice a g.length cap ∧ ρ 14 = .int .i64 (g.length:Int) ∧ ρ 15 = .int .i64 (i:Int))
    ⟨0,_,rfl,Nat.zero_le _,tw,cs0,rfl,rfl,rfl,rfl⟩ ?_
  clear mk tw ix0 rd00 cs0;rintro m ρ X ⟨i,w,rfl,hi,tw,cs,e3,e13,e14,e15⟩
  by_cases hil:i < g.length
  case neg =>
    have hlt:¬ (i:Int) < (g.length:Int):=by omega
    have hie:i = g.length:=by omega
    rw [hie] at cs;have hw:∀ k,k < n → w.getD k [] = colT g k g.length:=fun k hk => by
      have:=cs k hk;rwa [if_neg (Nat.not_lt_zero k)] at this
    have hsl:=tw.sl (by omega) (fun k hk => by rw [hw k hk,colT_len]; omega)
    have hpo:∃ w,Keep H X ∧ SlG X (.slice (some ⟨H.size,0,none⟩) n n) w H.size 0 ∧ w.length = n ∧ ∀ k,k < n → w.getD k [] = colT g k g.length:=⟨w,tw.keep,hsl,tw.len,hw⟩;clear hsl tw cs hie hil hi hrow hg hw
    repeat' simp only [↓Zabr,↓Zabo,↓Zabq,↓Zaag,↓Zaah,↓Zabl,↓Zabn,↓Zaci,↓Zach,↓Zacn,↓Zaar,↓Zaaj,↓Zaaq,↓Zaak,↓Zaao,↓Zaap,↓bxPut,↓Zabj,↓Zabi,↓Zaae,↓Zabe,↓Zabd,↓Zaco,↓Zaba,↓Zaay,Zacj,Zaad,Zabc,Zacf,↓reduceIte,Nat.reduceEqDiff,Nat.reduceLT,dec_F, *]
  have hlt:(i:Int) < (g.length:Int):=by omega
  have hwi:IntKind.i64.wrap ((i:Int) + 1) = ((i + 1:Nat):Int):=IntWalk.i64_in _ (by omega)
  have hob:=SlG_at hg hil;obtain ⟨ixi,xv,r1,o1,rdx,sx⟩:=hob;replace rdx:=tw.keep.read (hg.lt h0) rdx;obtain ⟨ax,cx,rfl⟩:=sx.v0;have hgx:∃ x,g.getD i [] = x:=⟨_,rfl⟩;obtain ⟨x,hx⟩:=hgx;have hxd:g.getD i default = x:=hx;rw [hxd] at sx rdx;have hxl:x.length ≤ n ∧ n ≤ x.length:=by have:=hrow i hil; rw [hx] at this; omega
  obtain ⟨hx1,hx2⟩:=hxl;clear hxd
  repeat' simp only [↓Zabr,↓Zabo,↓Zabq,↓Zaag,↓Zaah,↓Zabl,↓Zabn,↓Zaci,↓Zach,↓Zacn,↓Zaar,↓Zaaj,↓Zaaq,↓Zaak,↓Zaao,↓Zaap,↓bxPut,↓Zabj,↓Zabi,↓Zaae,↓Zabe,↓Zabd,↓Zaco,↓Zaba,↓Zaay,Zacj,Zaad,Zabc,Zacg,↓reduceIte,Nat.reduceEqDiff,Nat.reduceLT,dec_T,one1,Option.bind_some, *,lenI,ldIs]
  refine sxL_of (fun m ρ V => ∃ (j:Nat) (y:List (List Int)),m = x.length - j ∧ j ≤ x.length ∧ TW H V H.size y n ∧ ColS g y n i j ∧ ρ 3 = .slice (some ⟨H.size,0,none⟩) n n ∧ ρ 13 = .slice a g.length cap ∧ ρ 14 = .int .i64 (g.length:Int) ∧ ρ 15 = .int .i64 (i:Int) ∧ ρ 19 = .slice ax x.length cx ∧ ρ 20 = .int .i64 (x.length:Int) ∧ ρ 21 = .int .i64 (j:Int))
    ⟨0,w,rfl,Nat.zero_le _,tw,cs,e3,e13,e14,e15,rfl,rfl,rfl⟩ ?_
  clear e3 e13 e14 e15 ρ tw cs w rdx ixi;rintro m ρ V ⟨j,w,rfl,hj,tw,cs,e3,e13,e14,e15,e19,e20,e21⟩
  by_cases hjl:j < x.length
  case neg =>
    have hltj:¬ (j:Int) < (x.length:Int):=by omega
    have hje:j = n:=by omega
    rw [hje] at cs;have cs':=cs.next;clear hje hjl hj cs hrow hg sx hx
    repeat' simp only [↓Zabr,↓Zabo,↓Zabq,↓Zaag,↓Zabl,↓Zabn,↓Zaci,↓Zach,↓Zacn,↓Zaar,↓Zaaj,↓Zaam,↓Zaaq,↓Zaat,↓Zaak,↓Zaao,↓bxOp_append,↓Zack,↓bxPut,↓Zabj,↓Zabi,↓Zaaf,↓Zaae,↓Zabe,↓Zabd,↓Zaco,↓Zaba,↓Zaay,Zacj,Zaad,Zabc,Zacf,↓reduceIte,Nat.reduceEqDiff,Nat.reduceLT,dec_F,true_and, *]
    exact ⟨g.length - (i + 1),by omega,i + 1,w,rfl,by omega,tw,cs',rfl⟩
  have hltj:(j:Int) < (x.length:Int):=by omega
  have hwj:IntKind.i64.wrap ((j:Int) + 1) = ((j + 1:Nat):Int):=IntWalk.i64_in _ (by omega)
  have ixx:=SlI_ix (sx.keep tw.keep) hjl;have hrj:=(sx.keep tw.keep).rdI hjl;obtain ⟨rdj,hzr⟩:=hrj;have hjn:j < n:=by omega
  have ixn:aIndexAt Tryd.prog 22 (.slice (some ⟨H.size,0,none⟩) n n) (.int .i64 (j:Int)) = some (.pointer (some ⟨H.size,j,none⟩)):=by
    rw [ixG,if_pos ⟨by omega,by omega⟩,Int.toNat_natCast,Nat.mul_one,Nat.zero_add]
  have hlw:(w.getD j []).length + 1 ≤ 1000:=by
    rw [cs j hjn,if_neg (Nat.lt_irrefl j),colT_len]; omega
  have hob:=tw.push hgr (Nat.le_refl _) hjn (x.getD j 0) hzr hlw;obtain ⟨v,v2,X2,X3,q1,q2,q3,tw3⟩:=hob;have cs3:=cs.step hjn tw.len;rw [hx] at cs3;obtain ⟨w2,hw2⟩:∃ w2,w2 = w.set j (w.getD j [] ++ [x.getD j 0]):=⟨_,rfl⟩;rw [← hw2] at tw3 cs3;clear hw2 hlw tw cs hzr hrow hg sx hx
  repeat' simp only [↓Zabr,↓Zabo,↓Zabq,↓Zaag,↓Zabl,↓Zabn,↓Zaci,↓Zach,↓Zacn,↓Zaar,↓Zaaj,↓Zaam,↓Zaaq,↓Zaat,↓Zaak,↓Zaao,↓bxOp_append,↓Zack,↓bxPut,↓Zabj,↓Zabi,↓Zaaf,↓Zaae,↓Zabe,↓Zabd,↓Zaco,↓Zaba,↓Zaay,Zacj,Zaad,Zabc,Zacg,List.map,↓reduceIte,Nat.reduceEqDiff,Nat.reduceLT,dec_T,true_and,one1,Option.bind_some, *,ldI,ldIs,bsI1]
  exact ⟨x.length - (j + 1),by omega,j + 1,w2,rfl,by omega,tw3,cs3,rfl⟩
end Go.Proofs.YtdfjaoncabanbaaDoor
