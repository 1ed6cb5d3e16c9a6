/- Pieces of one proof. -/
import Derived.Test.YtojbmnbphdcjfaaGreatP05
import Derived.WalkSmall
import Derived.Deep.MidRow
import Derived.Laws.Bits64b
import Derived.Lib.Mul64
import Derived.Laws.Externs
set_option linter.all false
set_option maxHeartbeats 64000000
set_option maxRecDepth 100000
namespace Go.Proofs.YtojbmnbphdcjfaaGreat
open Go.RowKit
theorem aHb(w:World):(zeroValue 159).run Tryz.prog w=.ok (.agg (arr fun _=>false)) w:=by
 have h:(zeroValue 159).run Tryz.prog=fun w=>.ok (.agg (arr fun _=>false)) w:=by kernel_rfl
 rw[h]
theorem aAn(f:Nat→Bool):(Tryz.prog.info? 159).map (·.size)=some (arr f).size:=by rw[aA6];kernel_rfl
def PlusAt(x y:Nat)(w:World)(c i:Value)(wr:World):Prop:=
 ∃k:Nat,k≤192∧i=.int .i64 k∧c=.int .i64 (aFg x y k)∧Blk wr w.heap.size (arr x.testBit) 159∧Blk wr (w.heap.size+1) (arr y.testBit) 159∧
  Blk wr (w.heap.size+1+1) (arr fun _=>false) 159∧Blk wr (w.heap.size+1+1+1) (arr fun j=>decide (j<k) && (x+y).testBit j) 159∧Below w.heap.size w wr
theorem plus_store(x y k:Nat):(arr fun j=>decide (j<k) && (x+y).testBit j).setIfInBounds k (.bool ((x+y).testBit k))=arr fun j=>decide (j<k+1) && (x+y).testBit j:=by
 rw[aKw];refine aCc fun j hj=>?_
 by_cases h:j=k
 ·subst h;simp
 have:(j<k+1)=(j<k):=by simp;omega
 simp[h,this]
theorem aLb(x y:Nat)(w:World):
  Calls Tryz.prog 149 #[aFa x,aFa y] w (yR w (aFa (x+y))):=by
 have hz:=aHb;rw[aB1,aB1];go_enter Tryz.func149,Tryz.ntmps149;go_wp2
 go_loopw [6,7] (PlusAt x y w) (fun _ i _=>192 - (intOf i).toNat)
 case atStart=>
  have c0:aFg x y 0=0:=by simp[aFg,Nat.mod_one]
  refine⟨0,by omega,rfl,by rw[c0];rfl,?_,?_,?_,?_,((((yZ.alloc yL _).alloc (by simp) _).alloc (by simp;omega) _).alloc (by simp;omega) _)⟩
  ·exact(((pAA _ _ _).alloc _).alloc _).alloc _
  ·exact((pAC _ _ _ (by simp)).alloc _).alloc _
  ·exact(pAC _ _ _ (by simp)).alloc _
  have e:(arr fun j=>decide (j<0) && (x+y).testBit j)=arr fun _=>false:=aCc fun i _=>by simp
  rw[e];exact pAC _ _ _ (by simp)
 obtain⟨k,hk,rfl,rfl,k1,k2,k3,k4,hb⟩:=hrel
 by_cases hkl:k<192
 ·obtain⟨c,hc,hcc,hbit,hcs⟩:=add_step x y k;have hcell1:wr.cell? ⟨w.heap.size,k,none⟩=some (.bool (x.testBit k)):=by rw[k1.cell k];exact aCa _ k hkl
  have hcell2:wr.cell? ⟨w.heap.size+1,k,none⟩=some (.bool (y.testBit k)):=by rw[k2.cell k];exact aCa _ k hkl
  have hcell4:wr.cell? ⟨w.heap.size+1+1+1,k,none⟩=some (.bool false):=by rw[k4.cell k,aCa _ k hkl];simp
  have hf4:=k4.frozen k;have HB:=yH hbit;have HC:=yH hcs;rw[hcc];clear hbit hcs hcc;have hs4:=yH (k4.set k (.bool ((x+y).testBit k)));rw[plus_store]at hs4;have h01:c=0∨c=1:=by omega
  cases hx:x.testBit k <;> cases hy:y.testBit k
  all_goals
   rw[hx]at hcell1 HB HC;rw[hy]at hcell2 HB HC;clear hx hy;rcases h01 with rfl|rfl
  all_goals
   go_wp2;go_roundw
   case rel=>
    have e:=HB.out;have e2:=HC.out;simp at e e2;rw[e]at hs4;exact⟨k+1,by omega,by go_num,by rw[e2];rfl,k1.setOther (by simp;omega) _,k2.setOther (by simp) _,k3.setOther (by simp) _,hs4.out,hb.setCell (by simp;omega) _⟩
   case measure=>simp[intOf];omega
 have e:(arr fun j=>decide (j<k) && (x+y).testBit j)=arr (x+y).testBit:=aCc fun j hj=>by
  have:j<k:=by omega
  simp[this]
 rw[e]at k4;have hg2:=k3.lt;clear e
 go_wp2_with (first
  | (refine wpList_load_row rfl 159 (.tmp 5) rfl (w.heap.size+1+1+1) rfl 159 (arr (x+y).testBit) (0,0) _ k4 Tryz.underlying159 rfl (aAn _) ?_)
  | (refine wpList_store_row rfl 159 (.tmp 4) (.tmp 31) rfl (w.heap.size+1+1) (arr (x+y).testBit) rfl rfl 159 _ k3 (aAn _) (by simp only[aA6]) (aDt _) ?_))
 refine bodyPost_ret (v:=aFa (x+y)) (results_cell_row rfl _ _ (w.heap.size+1+1) 159 (arr (x+y).testBit) (0,0) _ rfl k3.row Tryz.underlying159 rfl (aAn _)) rfl ⟨rfl,?_⟩;exact below_setRow hb (by omega) _
def aPn(x y:Nat)(i:Value):Prop:=(∃k:Nat,k<192∧i=.int .i64 k∧x/2 ^ (k+1)=y/2 ^ (k+1))∨(i=.int .i64 (-1)∧x=y)
theorem aJs{x y:Nat}(k:Nat)(hk:k<192)(h:x/2 ^ k=y/2 ^ k):aPn x y (.int .i64 ((k:Int) - 1)):=by
 rcases Nat.eq_zero_or_pos k with rfl|hp
 ·right;simp at h;exact⟨rfl,h⟩
 left;refine⟨k - 1,by omega,by congr 1;omega,?_⟩
 rw[show k - 1+1=k by omega];exact h
theorem aEd(x y:Nat)(w:World)(hx:x<2 ^ 192)(hy:y<2 ^ 192):
  Calls Tryz.prog 143 #[aFa x,aFa y] w (yR w (.bool (decide (y<x)))):=by
 have hx0:x/2 ^ (191+1)=y/2 ^ (191+1):=by rw[Nat.div_eq_of_lt hx,Nat.div_eq_of_lt hy]
 clear hx hy;have H0:=yH hx0;clear hx0;rw[aB1,aB1];go_enter Tryz.func143,Tryz.ntmps143;go_wp2;have k1:Blk ((w.alloc (.cells (arr x.testBit) 159)).alloc (.cells (arr y.testBit) 159)) w.heap.size (arr x.testBit) 159:=(pAA _ _ _).alloc _;have k2:Blk ((w.alloc (.cells (arr x.testBit) 159)).alloc (.cells (arr y.testBit) 159)) (w.heap.size+1) (arr y.testBit) 159:=pAC _ _ _ (by simp);have hb:Below w.heap.size w ((w.alloc (.cells (arr x.testBit) 159)).alloc (.cells (arr y.testBit) 159)):=(yZ.alloc yL _).alloc (by simp) _;generalize (w.alloc (.cells (arr x.testBit) 159)).alloc (.cells (arr y.testBit) 159)=W at *
 go_loopw [5] (fun i wr=>aPn x y i∧∃n,wr=W.drewN n) (fun i _=>(intOf i+1).toNat)
 case atStart=>exact⟨.inl ⟨191,by omega,rfl,H0.out⟩,0,rfl⟩
 obtain⟨hat,n,rfl⟩:=hrel;rcases hat with⟨k,hk,rfl,heq⟩|⟨rfl,rfl⟩
 ·have hst:=aO7 x y k heq;have h1:=yH hst.1;have h2:=yH hst.2;clear hst heq;have hcell1:W.cell? ⟨w.heap.size,k,none⟩=some (.bool (x.testBit k)):=by rw[k1.cell k];exact aCa _ k hk
  have hcell2:W.cell? ⟨w.heap.size+1,k,none⟩=some (.bool (y.testBit k)):=by rw[k2.cell k];exact aCa _ k hk
  have hki:(k:Int)<192:=by omega
  generalize hu:x.testBit k=u at hcell1;generalize hv:y.testBit k=v at hcell2;have HU:=yH hu;have HV:=yH hv;clear hu hv
  cases u <;> cases v
  all_goals
   go_wp2
   go_quiet (fail)
   go_wp2
  ·go_roundw
   case rel=>exact⟨aJs k hk (h1.out (by rw[HU.out,HV.out])),_,rfl⟩
   case measure=>simp[intOf] <;> omega
  ·go_ret;exact⟨by rw[h2.out (by rw[HU.out,HV.out];simp),HU.out];rfl,below_drewN hb _⟩
  ·go_ret;exact⟨by rw[h2.out (by rw[HU.out,HV.out];simp),HU.out];rfl,below_drewN hb _⟩
  go_roundw
  case rel=>exact⟨aJs k hk (h1.out (by rw[HU.out,HV.out])),_,rfl⟩
  case measure=>simp[intOf] <;> omega
 go_wp2;go_ret;exact⟨by simp,below_drewN hb _⟩
theorem aMw(z k:Nat):(arr fun j=>decide (j<k) && z.testBit j).setIfInBounds k (.bool (z.testBit k))=arr fun j=>decide (j<k+1) && z.testBit j:=by
 rw[aKw];refine aCc fun j hj=>?_
 by_cases h:j=k
 ·subst h;simp
 have:(j<k+1)=(j<k):=by simp;omega
 simp[h,this]
theorem upto_all(z k:Nat)(h:192≤k):(arr fun j=>decide (j<k) && z.testBit j)=arr z.testBit:=aCc fun j hj=>by
 have:j<k:=by omega
 simp[this]
def LessAt(x y:Nat)(w:World)(c i:Value)(wr:World):Prop:=
 ∃k:Nat,k≤192∧i=.int .i64 k∧c=.int .i64 (aDh x y k)∧Blk wr w.heap.size (arr x.testBit) 159∧Blk wr (w.heap.size+1) (arr y.testBit) 159∧
  Blk wr (w.heap.size+1+1) (arr fun _=>false) 159∧Blk wr (w.heap.size+1+1+1) (arr fun j=>decide (j<k) && (x - y).testBit j) 159∧Below w.heap.size w wr
theorem aLc(x y:Nat)(w:World)(hle:y≤x):
  Calls Tryz.prog 150 #[aFa x,aFa y] w (yR w (aFa (x - y))):=by
 have hz:=aHb;rw[aB1,aB1];go_enter Tryz.func150,Tryz.ntmps150;go_wp2
 go_loopw [6,7] (LessAt x y w) (fun _ i _=>192 - (intOf i).toNat)
 case atStart=>
  have c0:aDh x y 0=0:=by simp[aDh,Nat.mod_one]
  refine⟨0,by omega,rfl,by rw[c0];rfl,?_,?_,?_,?_,((((yZ.alloc yL _).alloc (by simp) _).alloc (by simp;omega) _).alloc (by simp;omega) _)⟩
  ·exact(((pAA _ _ _).alloc _).alloc _).alloc _
  ·exact((pAC _ _ _ (by simp)).alloc _).alloc _
  ·exact(pAC _ _ _ (by simp)).alloc _
  have e:(arr fun j=>decide (j<0) && (x - y).testBit j)=arr fun _=>false:=aCc fun i _=>by simp
  rw[e];exact pAC _ _ _ (by simp)
 obtain⟨k,hk,rfl,rfl,k1,k2,k3,k4,hb⟩:=hrel
 by_cases hkl:k<192
 ·have hst:=sub_step x y k hle;have hcell1:wr.cell? ⟨w.heap.size,k,none⟩=some (.bool (x.testBit k)):=by rw[k1.cell k];exact aCa _ k hkl
  have hcell2:wr.cell? ⟨w.heap.size+1,k,none⟩=some (.bool (y.testBit k)):=by rw[k2.cell k];exact aCa _ k hkl
  have hcell4:wr.cell? ⟨w.heap.size+1+1+1,k,none⟩=some (.bool false):=by rw[k4.cell k,aCa _ k hkl];simp
  have hf4:=k4.frozen k;have HB:=yH hst.1;have HC:=yH hst.2;have h01:aDh x y k=0∨aDh x y k=1:=by have:=borrowN_le x y k;omega
  clear hst;generalize aDh x y k=c at HB HC h01 ⊢;have hs4:=yH (k4.set k (.bool ((x - y).testBit k)));rw[aMw]at hs4
  cases hx:x.testBit k <;> cases hy:y.testBit k
  all_goals
   rw[hx]at hcell1 HB HC;rw[hy]at hcell2 HB HC;clear hx hy;rcases h01 with rfl|rfl
  all_goals
   go_wp2;go_roundw
   case rel=>
    have e:=HB.out;have e2:=HC.out;simp at e e2;rw[e]at hs4;exact⟨k+1,by omega,by go_num,by first|(rw[e2];done)|(rw[e2];rfl),k1.setOther (by simp;omega) _,k2.setOther (by simp) _,k3.setOther (by simp) _,hs4.out,hb.setCell (by simp;omega) _⟩
   case measure=>simp[intOf] <;> omega
 rw[upto_all (x - y) k (by omega)]at k4;have hg2:=k3.lt
 go_wp2_with (first
  | (refine wpList_load_row rfl 159 (.tmp 5) rfl (w.heap.size+1+1+1) rfl 159 (arr (x - y).testBit) (0,0) _ k4 Tryz.underlying159 rfl (aAn _) ?_)
  | (refine wpList_store_row rfl 159 (.tmp 4) (.tmp 33) rfl (w.heap.size+1+1) (arr (x - y).testBit) rfl rfl 159 _ k3 (aAn _) (by simp only[aA6]) (aDt _) ?_))
 refine bodyPost_ret (v:=aFa (x - y)) (results_cell_row rfl _ _ (w.heap.size+1+1) 159 (arr (x - y).testBit) (0,0) _ rfl k3.row Tryz.underlying159 rfl (aAn _)) rfl ⟨rfl,?_⟩;exact below_setRow hb (by omega) _
def ShiftAt(x by':Nat)(w:World)(i:Value)(wr:World):Prop:=
 ∃k:Nat,by'≤k∧k≤192∧i=.int .i64 k∧Blk wr w.heap.size (arr x.testBit) 159∧
  Blk wr (w.heap.size+1) (arr fun _=>false) 159∧Blk wr (w.heap.size+1+1) (arr fun j=>decide (j<k) && (x*2 ^ by').testBit j) 159∧Below w.heap.size w wr
theorem shift_bit(x n k:Nat)(h:n≤k):(x*2 ^ n).testBit k=x.testBit (k - n):=by
 rw[Nat.mul_comm,Nat.testBit_two_pow_mul];simp[h]
theorem aMx(x n:Nat)(w:World)(hn:n<192):
  Calls Tryz.prog 181 #[aFa x,.int .i64 n] w (yR w (aFa (x*2 ^ n))):=by
 have hz:=aHb;rw[aB1,aB1];go_enter Tryz.func181,Tryz.ntmps181;go_wp2
 go_loopw [6] (ShiftAt x n w) (fun i _=>192 - (intOf i).toNat)
 case atStart=>
  refine⟨n,Nat.le_refl _,by omega,rfl,?_,?_,?_,(((yZ.alloc yL _).alloc (by simp) _).alloc (by simp;omega) _)⟩
  ·exact((pAA _ _ _).alloc _).alloc _
  ·exact(pAC _ _ _ (by simp)).alloc _
  have e:(arr fun j=>decide (j<n) && (x*2 ^ n).testBit j)=arr fun _=>false:=aCc fun i _=>by
   rw[Nat.mul_comm,Nat.testBit_two_pow_mul]
   by_cases h:i<n
   ·simp[h];omega
   simp[h]
  rw[e];exact pAC _ _ _ (by simp)
 obtain⟨k,hnk,hk,rfl,k1,k2,k3,hb⟩:=hrel
 by_cases hkl:k<192
 ·have hcell1:wr.cell? ⟨w.heap.size,k - n,none⟩=some (.bool (x.testBit (k - n))):=by rw[k1.cell (k - n)];exact aCa _ (k - n) (by omega)
  have hidx:((k:Int) - (n:Int)).toNat=k - n:=by omega
  have hcell1':wr.cell? ⟨w.heap.size,((k:Int) - (n:Int)).toNat,none⟩=some (.bool (x.testBit (k - n))):=by rw[hidx];exact hcell1
  have hcell4:wr.cell? ⟨w.heap.size+1+1,k,none⟩=some (.bool false):=by rw[k3.cell k,aCa _ k hkl];simp
  have hf4:=k3.frozen k;have hs4:=yH (k3.set k (.bool ((x*2 ^ n).testBit k)));rw[aMw,shift_bit x n k hnk]at hs4;clear hidx;generalize x.testBit (k - n)=b at hcell1 hcell1' hs4;go_wp2;go_roundw
  case rel=>
   exact⟨k+1,by omega,by omega,by go_num,k1.setOther (by simp;omega) _,k2.setOther (by simp) _,hs4.out,hb.setCell (by simp;omega) _⟩
  case measure=>simp[intOf] <;> omega
 rw[upto_all (x*2 ^ n) k (by omega)]at k3;have hg2:=k2.lt
 go_wp2_with (first
  | (refine wpList_load_row rfl 159 (.tmp 5) rfl (w.heap.size+1+1) rfl 159 (arr (x*2 ^ n).testBit) (0,0) _ k3 Tryz.underlying159 rfl (aAn _) ?_)
  | (refine wpList_store_row rfl 159 (.tmp 4) (.tmp 19) rfl (w.heap.size+1) (arr (x*2 ^ n).testBit) rfl rfl 159 _ k2 (aAn _) (by simp only[aA6]) (aDt _) ?_))
 refine bodyPost_ret (v:=aFa (x*2 ^ n)) (results_cell_row rfl _ _ (w.heap.size+1) 159 (arr (x*2 ^ n).testBit) (0,0) _ rfl k2.row Tryz.underlying159 rfl (aAn _)) rfl ⟨rfl,?_⟩;exact below_setRow hb (by omega) _
def aAf(neg:Bool)(f:Nat→Bool):Array Value:=#[Value.bool neg]++arr f
theorem aBi(neg:Bool)(f:Nat→Bool):(aAf neg f).size=193:=by simp[aAf,aA6]
theorem aA9(neg:Bool)(f:Nat→Bool):(aAf neg f)[0]? = some (.bool neg):=by
 unfold aAf;rw[Array.getElem?_append_left (by simp)];rfl
theorem aDw(neg:Bool)(f:Nat→Bool)(i:Nat)(h:i<192):(aAf neg f)[1+i]? = some (.bool (f i)):=by
 unfold aAf;rw[Array.getElem?_append_right (by simp),show 1+i - (#[Value.bool neg]:Array Value).size=i by simp,aCa f i h]
theorem whole_set(neg:Bool)(f:Nat→Bool)(i:Nat)(b:Bool):(aAf neg f).setIfInBounds (1+i) (.bool b)=aAf neg (fun j=>if j=i then b else f j):=by
 unfold aAf;rw[Array.setIfInBounds_append_right (by simp),show 1+i - (#[Value.bool neg]:Array Value).size=i by simp,aKw]
theorem aDc(neg:Bool)(f:Nat→Bool):(aAf neg f).all (·.oneCell')=true:=by
 unfold aAf;rw[Array.all_append,aDt];simp[Value.oneCell']
theorem aF1{neg:Bool}{f g:Nat→Bool}(h:∀i,i<192→f i=g i):aAf neg f=aAf neg g:=by
 unfold aAf;rw[aCc h]
theorem whole_ne(neg:Bool)(f:Nat→Bool):(aAf neg f=#[])=False:=by
 simp only[eq_iff_iff,iff_false];intro h;have:=congrArg Array.size h;rw[aBi]at this;simp at this
theorem aMy(neg b:Bool)(f:Nat→Bool):(aAf neg f).setIfInBounds 0 (.bool b)=aAf b f:=by
 unfold aAf;rw[Array.setIfInBounds_append_left (by simp)];rfl
def aHy(cs:Array Value):Nat→List Value→Array Value
 | _,[]=>cs
 | o,v::r=>aHy (cs.setIfInBounds o v) (o+1) r
theorem aLd:∀(vs:List Value) (cs:Array Value) (o j:Nat),o+vs.length≤cs.size→
  (aHy cs o vs)[j]? = if o≤j∧j<o+vs.length then vs[j - o]? else cs[j]?
 | [],cs,o,j,_=>by rw[aHy,if_neg (by simp)]
 | v::r,cs,o,j,h=>by
  simp only[List.length_cons]at h;rw[aHy,aLd r _ _ _ (by simp;omega)]
  by_cases h1:j=o
  ·subst h1;rw[if_neg (by omega),if_pos (by simp),Array.getElem?_setIfInBounds_self_of_lt (by omega)];simp
  rw[Array.getElem?_setIfInBounds_ne (Ne.symm h1)]
  by_cases h2:o+1≤j∧j<o+1+r.length
  ·rw[if_pos h2,if_pos (by simp;omega),show j - o=(j - (o+1))+1 by omega,List.getElem?_cons_succ]
  rw[if_neg h2,if_neg (by simp;omega)]
theorem Blk.setCells{g:Nat}{t:TypeId}:∀(vs:List Value) {w:World} {cs:Array Value} (o:Nat),Blk w g cs t→Blk (w.setCells g o vs) g (aHy cs o vs) t
 | [],_,_,_,h=>h
 | v::r,_,_,o,h=>by
  rw[World.setCells,aHy];exact Blk.setCells r (o+1) (h.set o v)
theorem pAN{g k:Nat}{t:TypeId}{cs:Array Value}(hk:g≠k):∀(vs:List Value) {w:World} (o:Nat),Blk w g cs t→Blk (w.setCells k o vs) g cs t
 | [],_,_,h=>h
 | v::r,_,o,h=>by
  rw[World.setCells];exact pAN hk r (o+1) (h.setOther hk v)
theorem aHl{B g:Nat}(hg:B≤g):∀(vs:List Value) {w0 w:World} (o:Nat),Below B w0 w→Below B w0 (w.setCells g o vs)
 | [],_,_,_,h=>h
 | v::r,_,_,o,h=>by
  rw[World.setCells];exact aHl hg r (o+1) (h.setCell hg v)
theorem aN0(neg:Bool)(f h:Nat→Bool):aHy (aAf neg f) 1 (arr h).toList=aAf neg h:=by
 apply Array.ext_getElem?;intro j;rw[aLd _ _ _ _ (by rw[Array.length_toList,aA6,aBi];omega),Array.length_toList,aA6]
 by_cases hj:1≤j∧j<1+192
 ·rw[if_pos hj,Array.getElem?_toList,aCa _ _ (by omega)];have:=aDw neg h (j - 1) (by omega);rw[show 1+(j - 1)=j by omega]at this;rw[this]
 rw[if_neg hj]
 by_cases h0:j=0
 ·subst h0;rw[aA9,aA9]
 rw[Array.getElem?_eq_none (by rw[aBi];omega),Array.getElem?_eq_none (by rw[aBi];omega)]
theorem aRt{w:World}{g:Nat}{neg:Bool}{f:Nat→Bool}{t:TypeId}(h:Blk w g (aAf neg f) t):w.there g 1 192:=fun j hj=>
 ⟨by rw[h.cell (1+j),aDw _ _ j hj];rfl,h.frozen (1+j)⟩
attribute [irreducible] aAf
def aBp(neg:Bool)(x:Nat):Value:=.agg (aAf neg x.testBit)
theorem not_arith(a:Nat)(ha:a<18446744073709551616):((18446744073709551616 - 1 - a:Nat):Int)%18446744073709551616=18446744073709551615 - (a:Int):=by omega
theorem u64_not(a:Nat)(ha:a<18446744073709551616):bits .xor .u64 IntKind.u64.max (a:Int)=18446744073709551615 - (a:Int):=by
 show IntKind.u64.wrap ((BitVec.ofInt 64 IntKind.u64.max ^^^ BitVec.ofInt 64 (a:Int)).toNat:Int)=_;have h1:BitVec.ofInt 64 IntKind.u64.max=BitVec.allOnes 64:=by decide
 rw[h1,BitVec.allOnes_xor,BitVec.toNat_not,ofInt_u64 a ha,aBf];exact not_arith a ha
theorem aRu(a:Int)(h:In64 a)(hn:a<0):IntKind.u64.wrap (bits .xor .u64 IntKind.u64.max (IntKind.u64.wrap a)+1)=(a.natAbs:Int):=by
 obtain⟨n,rfl⟩:∃n:Nat,a = -(n:Int):=⟨a.natAbs,by omega⟩;have hn2:0<n∧n≤9223372036854775808:=by unfold In64 at h;omega
 have e:IntKind.u64.wrap (-(n:Int))=((18446744073709551616 - n:Nat):Int):=by rw[aBf];omega
 rw[e,u64_not _ (by omega),aBf,Int.natAbs_neg,Int.natAbs_natCast];omega
theorem aRv(a:Int)(h:In64 a)(hn:¬a<0):IntKind.u64.wrap a=(a.natAbs:Int):=by
 unfold In64 at h;rw[aBf];omega
theorem bit_test(U k:Nat)(hU:U<18446744073709551616):(bits .and .u64 ((U:Int)/2 ^ k) 1==1)=U.testBit k:=by
 have e:((U:Int)/2 ^ k)=((U/2 ^ k:Nat):Int):=by simp
 have hl:U/2 ^ k≤U:=Nat.div_le_self _ _;rw[e];have h:=bits_and_u64_nat (U/2 ^ k) 1 (by omega) (by omega);rw[Nat.and_one_is_mod]at h;rw[show((1:Int))=((1:Nat):Int)from rfl,h,Nat.testBit_eq_decide_div_mod_eq];rw[Bool.eq_iff_iff];simp;omega
def OfAt1(neg:Bool)(U:Nat)(w:World)(i:Value)(wr:World):Prop:=
 ∃k:Nat,k≤64∧i=.int .i64 k∧Blk wr w.heap.size (aAf false fun _=>false) 161∧Blk wr (w.heap.size+1) (aAf neg fun j=>decide (j<k) && U.testBit j) 161∧Below w.heap.size w wr
theorem of_store(neg:Bool)(U k:Nat):(aAf neg fun j=>decide (j<k) && U.testBit j).setIfInBounds (1+k) (.bool (U.testBit k))=aAf neg fun j=>decide (j<k+1) && U.testBit j:=by
 rw[whole_set];refine aF1 fun j hj=>?_
 by_cases h:j=k
 ·subst h;simp
 have:(j<k+1)=(j<k):=by simp;omega
 simp[h,this]
theorem of_all(neg:Bool)(U:Nat)(hU:U<18446744073709551616):(aAf neg fun j=>decide (j<64) && U.testBit j)=aAf neg U.testBit:=by
 refine aF1 fun j hj=>?_
 by_cases h:j<64
 ·simp[h]
 rw[Nat.testBit_lt_two_pow (yM hU (Nat.pow_le_pow_right (n:=2) (by omega) (show 64≤j by omega)))];simp
theorem aD6(w:World):(zeroValue 161).run Tryz.prog w=.ok (.agg (aAf false fun _=>false)) w:=by
 have h:(zeroValue 161).run Tryz.prog=fun w=>.ok (.agg (aAf false fun _=>false)) w:=by kernel_rfl
 rw[h]
theorem aA3(neg:Bool)(f:Nat→Bool):(Tryz.prog.info? 161).map (·.size)=some (aAf neg f).size:=by rw[aBi];kernel_rfl
theorem aIn(a:Int)(w:World)(h:In64 a):
  Calls Tryz.prog 99 #[.int .i64 a] w (yR w (aBp (decide (a<0)) a.natAbs)):=by
 have hz:=aD6;obtain⟨h1,h2⟩:=h;have hne:=whole_ne;have hs0:=aMy;obtain⟨U,hUe⟩:∃U,a.natAbs=U:=⟨_,rfl⟩;have hU:U<18446744073709551616:=by omega
 have hUa:=yH hUe;clear hUe
 by_cases hneg:a<0
 ·have hk2:Blk ((w.alloc (.cells (aAf false fun _=>false) 161)).alloc (.cells (aAf false fun _=>false) 161)) (w.heap.size+1) (aAf false fun _=>false) 161:=pAC _ _ _ (by simp);have r1:=aRu a ⟨h1,h2⟩ hneg;have hd:decide (a<0)=true:=by simp;omega
  rw[hUa.out]at r1;clear hd;go_enter Tryz.func99,Tryz.ntmps99;go_wp2_with ((with_reducible refine wpList_store_row ?_ 161 (.tmp 3) (.tmp 8) ?_ (w.heap.size+1) (aAf true fun _=>false) ?_ ?_ 161 _ hk2.out (aA3 _ _) (by simp only[aBi]) (aDc _ _) ?_);exact rfl;exact rfl;exact rfl;exact rfl)
  go_loopw [5] (OfAt1 true U w) (fun i _=>64 - (intOf i).toNat)
  case atStart=>
   refine⟨0,by omega,rfl,((pAA _ _ _).alloc _).rowOther (by simp),?_,below_setRow ((yZ.alloc yL _).alloc (by simp) _) (by omega) _⟩;have e:(aAf true fun j=>decide (j<0) && U.testBit j)=aAf true fun _=>false:=aF1 fun i _=>by simp
   rw[e];exact hk2.row
  obtain⟨k,hk,rfl,k1,k2,hb⟩:=hrel
  by_cases hkl:(k:Int)<64
  ·have hcell:wr.cell? ⟨w.heap.size+1,1+k,none⟩=some (.bool false):=by rw[k2.cell (1+k),aDw _ _ k (by omega)];simp
   have hf:=k2.frozen (1+k);have hs4:=yH (k2.set (1+k) (.bool (U.testBit k)));rw[of_store]at hs4;have hbt:=bit_test U k hU;go_wp2;go_roundw
   case rel=>exact⟨k+1,by omega,by go_num,k1.setOther (by simp) _,hs4.out,hb.setCell (by simp) _⟩
   case measure=>simp[intOf] <;> omega
  obtain rfl:k=64:=by omega
  rw[of_all true U hU]at k2;have hg2:=k1.lt
  go_wp2_with (first
   | ((with_reducible refine wpList_load_row ?_ 161 (.tmp 3) ?_ (w.heap.size+1) ?_ 161 (aAf true U.testBit) (0,0) _ k2.out Tryz.underlying161 ?_ (aA3 _ _) ?_);exact rfl;exact rfl;exact rfl;exact rfl)
   | ((with_reducible refine wpList_store_row ?_ 161 (.tmp 2) (.tmp 28) ?_ w.heap.size (aAf true U.testBit) ?_ ?_ 161 _ k1.out (aA3 _ _) (by simp only[aBi]) (aDc _ _) ?_);exact rfl;exact rfl;exact rfl;exact rfl))
  refine bodyPost_ret (v:=aBp true U) (results_cell_row rfl _ _ w.heap.size 161 (aAf true U.testBit) (0,0) _ rfl k1.row Tryz.underlying161 rfl (aA3 _ _)) rfl ⟨?_,below_setRow hb yL _⟩;rw[hUa.out]
 have r1:=aRv a ⟨h1,h2⟩ hneg;have hd:decide (a<0)=false:=by simp;omega
 rw[hUa.out]at r1;have hk2:Blk ((w.alloc (.cells (aAf false fun _=>false) 161)).alloc (.cells (aAf false fun _=>false) 161)) (w.heap.size+1) (aAf false fun _=>false) 161:=pAC _ _ _ (by simp);clear hd;go_enter Tryz.func99,Tryz.ntmps99;go_wp2_with ((with_reducible refine wpList_store_row ?_ 161 (.tmp 3) (.tmp 8) ?_ (w.heap.size+1) (aAf false fun _=>false) ?_ ?_ 161 _ hk2.out (aA3 _ _) (by simp only[aBi]) (aDc _ _) ?_);exact rfl;exact rfl;exact rfl;exact rfl)
 go_loopw [5] (OfAt1 false U w) (fun i _=>64 - (intOf i).toNat)
 case atStart=>
  refine⟨0,by omega,rfl,((pAA _ _ _).alloc _).rowOther (by simp),?_,below_setRow ((yZ.alloc yL _).alloc (by simp) _) (by omega) _⟩;have e:(aAf false fun j=>decide (j<0) && U.testBit j)=aAf false fun _=>false:=aF1 fun i _=>by simp
  rw[e];exact hk2.row
 obtain⟨k,hk,rfl,k1,k2,hb⟩:=hrel
 by_cases hkl:(k:Int)<64
 ·have hcell:wr.cell? ⟨w.heap.size+1,1+k,none⟩=some (.bool false):=by rw[k2.cell (1+k),aDw _ _ k (by omega)];simp
  have hf:=k2.frozen (1+k);have hs4:=yH (k2.set (1+k) (.bool (U.testBit k)));rw[of_store]at hs4;have hbt:=bit_test U k hU;go_wp2;go_roundw
  case rel=>exact⟨k+1,by omega,by go_num,k1.setOther (by simp) _,hs4.out,hb.setCell (by simp) _⟩
  case measure=>simp[intOf] <;> omega
 obtain rfl:k=64:=by omega
 rw[of_all false U hU]at k2;have hg2:=k1.lt
 go_wp2_with (first
  | ((with_reducible refine wpList_load_row ?_ 161 (.tmp 3) ?_ (w.heap.size+1) ?_ 161 (aAf false U.testBit) (0,0) _ k2.out Tryz.underlying161 ?_ (aA3 _ _) ?_);exact rfl;exact rfl;exact rfl;exact rfl)
  | ((with_reducible refine wpList_store_row ?_ 161 (.tmp 2) (.tmp 28) ?_ w.heap.size (aAf false U.testBit) ?_ ?_ 161 _ k1.out (aA3 _ _) (by simp only[aBi]) (aDc _ _) ?_);exact rfl;exact rfl;exact rfl;exact rfl))
 refine bodyPost_ret (v:=aBp false U) (results_cell_row rfl _ _ w.heap.size 161 (aAf false U.testBit) (0,0) _ rfl k1.row Tryz.underlying161 rfl (aA3 _ _)) rfl ⟨?_,below_setRow hb yL _⟩;rw[hUa.out,decide_eq_false (p:=a<0) (by omega)]
end Go.Proofs.YtojbmnbphdcjfaaGreat
namespace Go.Proofs.YtojbmnbphdcjfaaGreat
open Go.RowKit Go.Lib
theorem aPo(x y c:Int)(hx:0≤x)(hy:0≤y)(hc0:0≤c)(hc:c≤1)(w:World):
  (callFunc 148 #[.int .u64 x,.int .u64 y,.int .u64 c]).run Tryz.prog w=
   .ok (.value (.tuple #[.int .u64 ((x+y+c)%18446744073709551616),.int .u64 ((x+y+c)/18446744073709551616)])) w:=by
 rw[run_callFunc_extern Tryz.func148 (by kernel_rfl) (by kernel_rfl) (by kernel_rfl) (e:=add64Entry) (by kernel_rfl),run_add64 x y c hx hy hc0 hc];rfl
theorem maskN(a:Nat)(ha:a<18446744073709551616):bits .and .u64 (a:Int) 4294967295=((a%4294967296:Nat):Int):=by
 have h:=bits_and_u64_nat a 4294967295 ha (by omega);have e:a &&& 4294967295=a%4294967296:=Nat.and_two_pow_sub_one_eq_mod a 32;rw[e]at h;exact h
theorem divN(a:Nat):(a:Int)/4294967296=((a/4294967296:Nat):Int):=by omega
theorem mulN(a b:Nat):(a:Int)*(b:Int)=((a*b:Nat):Int):=(Int.natCast_mul a b).symm
theorem addN(a b:Nat):(a:Int)+(b:Int)=((a+b:Nat):Int):=(Int.natCast_add a b).symm
theorem aPp(a:Nat)(ha:a<18446744073709551616):IntKind.u64.wrap (a:Int)=(a:Int):=by rw[aBf];omega
theorem wrapM(a:Nat):IntKind.u64.wrap (a:Int)=((a%18446744073709551616:Nat):Int):=by rw[aBf];omega
theorem mul64_nat(x y:Nat)(hx:x<18446744073709551616)(hy:y<18446744073709551616)(w:World):
  Calls Tryz.prog 123 #[.int .u64 x,.int .u64 y] w fun e w'=>
   e=.returned (.tuple #[.int .u64 ((x*y/18446744073709551616:Nat):Int),.int .u64 ((x*y%18446744073709551616:Nat):Int)])∧w=w':=by
 obtain⟨bd,bt,bw,hhi⟩:=Lib.mul64_hi x y hx hy;have ba:=Lib.half_mul_le (a:=x/4294967296) (b:=y/4294967296) (by omega) (by omega);have bb:=Lib.half_mul_le (a:=x/4294967296) (b:=y%4294967296) (by omega) (by omega);have bc:=Lib.half_mul_le (a:=x%4294967296) (b:=y/4294967296) (by omega) (by omega);have ba':x/4294967296*(y/4294967296)<18446744073709551616:=by omega
 have bb':x/4294967296*(y%4294967296)<18446744073709551616:=by omega
 have bc':x%4294967296*(y/4294967296)<18446744073709551616:=by omega
 have hmul:x*y/18446744073709551616<18446744073709551616:=by
  have:=Nat.mul_lt_mul'' hx hy;omega
 generalize ht:x/4294967296*(y%4294967296)+x%4294967296*(y%4294967296)/4294967296=t at *;have Ht:=yH ht;clear ht;have Hhi:=yH hhi;clear hhi;go_enter Tryz.func123,Tryz.ntmps123;go_wp2;simp only[maskN x hx,maskN y hy,divN,mulN,addN,aPp _ bd,aPp _ bb',Ht.out,aPp _ bt,maskN _ bt,aPp _ bc',aPp _ bw,aPp _ ba'];rw[aPp _ (show x/4294967296*(y/4294967296)+t/4294967296<18446744073709551616 by have:=Hhi.out;omega),addN,aPp _ (by have:=Hhi.out;omega),Hhi.out,wrapM];go_ret2;exact⟨rfl,rfl⟩
theorem aLe(x y:Int)(w:World)(hx:aDz x)(hy:aDz y):
  Calls Tryz.prog 123 #[.int .u64 x,.int .u64 y] w fun e w'=>
   e=.returned (.tuple #[.int .u64 (x*y/18446744073709551616),.int .u64 (x*y%18446744073709551616)])∧w=w':=by
 unfold aDz at hx hy;obtain⟨X,rfl⟩:=Int.eq_ofNat_of_zero_le hx.1;obtain⟨Y,rfl⟩:=Int.eq_ofNat_of_zero_le hy.1;exact mul64_nat X Y (by omega) (by omega) w
end Go.Proofs.YtojbmnbphdcjfaaGreat
