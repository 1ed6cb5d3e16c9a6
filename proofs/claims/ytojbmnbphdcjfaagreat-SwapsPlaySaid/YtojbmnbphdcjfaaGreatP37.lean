/- Pieces of one proof. -/
import Derived.Test.YtojbmnbphdcjfaaGreatP36
import Derived.Deep.MidRow
set_option linter.all false
set_option maxHeartbeats 64000000
set_option maxRecDepth 100000
namespace Go.Proofs.YtojbmnbphdcjfaaGreat
open Go.RowKit
theorem aQl(x:Of){c1 c2:Nat}{s b:Int}{w:World}(h1:Blk w c1 #[.int .u8 s] 40)(h2:Blk w c2 #[.int .u8 b] 40):
  Calls Tryz.prog 114 #[.agg #[.int .u64 x.se,.int .u8 x.ow,.int .u8 x.sl,.int .u8 x.bu,.int .i64 x.lf,.int .i64 x.nu,.int .i64 x.de],.pointer (some ⟨c1,0,none⟩),.pointer (some ⟨c2,0,none⟩)] w (yR w (.bool (!aBj s b x))):=by
 have B0:=yH ((Below.refl w.heap.size w).alloc yL (.cells #[.int .u64 x.se,.int .u8 x.ow,.int .u8 x.sl,.int .u8 x.bu,.int .i64 x.lf,.int .i64 x.nu,.int .i64 x.de] 126));have k1:=h1.alloc (.cells #[.int .u64 x.se,.int .u8 x.ow,.int .u8 x.sl,.int .u8 x.bu,.int .i64 x.lf,.int .i64 x.nu,.int .i64 x.de] 126);have k2:=h2.alloc (.cells #[.int .u64 x.se,.int .u8 x.ow,.int .u8 x.sl,.int .u8 x.bu,.int .i64 x.lf,.int .i64 x.nu,.int .i64 x.de] 126);have d0:=k1.cell 0;have e0:=k2.cell 0;simp at d0 e0;have hl:=k1.lt;have hl2:=k2.lt;clear k1 k2 h1 h2;unfold aBj
 by_cases q1:x.sl=s
 ·have p1:(x.sl==s)=true:=by simpa using q1
  have p2:(x.sl != s)=false:=by simpa using q1
  by_cases q2:x.bu=b
  ·have p3:(x.bu==b)=true:=by simpa using q2
   have p4:(x.bu != b)=false:=by simpa using q2
   rw[decide_eq_true (And.intro q1 q2)];clear q1 q2;go_enter Tryz.func114,Tryz.ntmps114;go_wp2_with fail;go_ret;exact⟨rfl,B0.out⟩
  have p3:(x.bu==b)=false:=by simpa using q2
  have p4:(x.bu != b)=true:=by simpa using q2
  rw[decide_eq_false (fun k=>q2 k.2)];clear q1 q2;go_enter Tryz.func114,Tryz.ntmps114;go_wp2_with fail;go_ret;exact⟨rfl,B0.out⟩
 have p1:(x.sl==s)=false:=by simpa using q1
 have p2:(x.sl != s)=true:=by simpa using q1
 rw[decide_eq_false (fun k=>q1 k.1)];clear q1;go_enter Tryz.func114,Tryz.ntmps114;go_wp2_with fail;go_ret;exact⟨rfl,B0.out⟩
def aEe(l:List Of)(s b:Int):Nat:=l.findIdx fun x=>!aBj s b x
theorem posB_le(l:List Of)(s b:Int):aEe l s b≤l.length:=List.findIdx_le_length
theorem posB_at{l:List Of}{s b:Int}{k:Nat}(hk:k<l.length)(hn:∀x∈l.take k,aBj s b x=true)(hx:aBj s b l[k]=false):aEe l s b=k:=by
 unfold aEe;rw[List.findIdx_eq hk];refine⟨by simp[hx],fun j hj=>?_⟩;have:=hn l[j] (by rw[List.mem_take_iff_getElem];exact⟨j,by omega,rfl⟩);simp[this]
theorem posB_none{l:List Of}{s b:Int}(hn:∀x∈l,aBj s b x=true):aEe l s b=l.length:=by
 unfold aEe;rw[List.findIdx_eq_length];intro x hx;simp[hn x hx]
theorem aQm{l:List Of}{s b:Int}{j:Nat}(hj:j<aEe l s b):aBj s b (l[j]'(yM hj (posB_le l s b)))=true:=by
 have:=List.not_of_lt_findIdx (p:=fun x=>!aBj s b x) (xs:=l) (i:=j) hj;simpa using this
theorem posB_hit{l:List Of}{s b:Int}(h:aEe l s b<l.length):aBj s b l[aEe l s b]=false:=by
 have:=List.findIdx_getElem (p:=fun x=>!aBj s b x) (xs:=l) (w:=h);rw[Bool.not_eq_true']at this;exact this
def idxB(l:List Of)(s b:Int):Value:=if aEe l s b<l.length then .int .i64 (aEe l s b:Nat)else .int .i64 (-1)
def IdxBAt(w:World)(l:List Of)(s b:Int)(i:Value)(wr:World):Prop:=
 ∃k:Nat,k≤l.length∧i=.int .i64 k∧(∀x∈l.take k,aBj s b x=true)∧Below w.heap.size w wr
theorem pidxB_any{w:World}{base c1 c2:Nat}{l:List Of}{s b:Int}{v:Value}(h:w.ownsRow base 126 7 v l.length (aAa l))(h1:Blk w c1 #[.int .u8 s] 40)(h2:Blk w c2 #[.int .u8 b] 40):
  Calls Tryz.prog 111 #[v,.func (.func 114) #[] #[.pointer (some ⟨c1,0,none⟩),.pointer (some ⟨c2,0,none⟩)]] w (yR w (idxB l s b)):=by
 obtain⟨ao,cap,rfl,hc1,hc2,hc3,hc4⟩:=aAd h;have HC:=yH hc4;have K1:=yH h1;have K2:=yH h2;unfold maxLen at hc2;clear hc3 hc4 h h1 h2;go_enter Tryz.func111,Tryz.ntmps111;go_wp2_with fail
 go_loopw [5,8] (fun _ i wr=>IdxBAt w l s b i wr) (fun _ i _=>l.length - (intOf i).toNat)
 case atStart=>exact⟨0,Nat.zero_le _,rfl,by simp,yZ⟩
 obtain⟨k,hk,rfl,hn,hb⟩:=hrel
 by_cases hkl:k<l.length
 ·obtain⟨g,rfl,hb1,hb2,hcell,_⟩:=HC.out (by omega);obtain⟨e0,e1,e2,e3,e4,e5,e6⟩:=aC5 (w:=wr) (fun j hj=>by rw[hb.cell (p:=⟨g,j,none⟩) hb2];exact hcell j hj) hkl;have FA:=yH (fun hx=>posB_at (s:=s) (b:=b) hkl hn hx);have TN:=yH (fun hx=>aEl (q:=fun x=>aBj s b x=true) hkl hn hx);have C1:=yH (aQl l[k] (K1.out.below hb K1.out.lt) (K2.out.below hb K2.out.lt));have HB:=yH hb;clear hcell hn hb;generalize l[k]=x at *
  cases hx:aBj s b x with
  | false=>
   have E:=yH (FA.out hx);rw[hx]at C1;clear FA TN hx;go_wp2_with fail;refine C1.out.mono ?_;rintro e w2 ⟨rfl,b2⟩;have HB2:=yT HB b2;clear b2;go_wp2_with fail;go_ret;refine⟨?_,HB2.out⟩;unfold idxB;rw[E.out,if_pos hkl];rfl
  | true=>
   have E:=yH (TN.out hx);rw[hx]at C1;clear FA TN hx;go_wp2_with fail;refine C1.out.mono ?_;rintro e w2 ⟨rfl,b2⟩;have HB2:=yT HB b2;clear b2;go_wp2_with fail;go_roundw
   case rel=>exact⟨k+1,by omega,by go_num,E.out,HB2.out⟩
   case measure=>simp[intOf];omega
 have E:Hid (aEe l s b=l.length):=yH (posB_none (by have:=hn;rwa [List.take_of_length_le (by omega)]at this));have HB:=yH hb;clear hn hb;go_wp2_with fail;go_ret;refine⟨?_,HB.out⟩;unfold idxB;rw[E.out,if_neg (by omega)];rfl
theorem aSq:∀(l:List Of) (k:Nat) (x:Of),k<l.length→(aAa l).take (k*7)++x.vals++(aAa l).drop (k*7+7)=aAa (l.set k x):=by
 intro l k x h;have e0:aAa l=aAa (l.take k)++aAa (l.drop k):=by rw[←aAv,List.take_append_drop]
 have e1:aAa l=aAa (l.take (k+1))++aAa (l.drop (k+1)):=by rw[←aAv,List.take_append_drop]
 have h1:(aAa l).take (k*7)=aAa (l.take k):=by rw[e0,List.take_left' (by rw[aAr,List.length_take];omega)]
 have h2:(aAa l).drop (k*7+7)=aAa (l.drop (k+1)):=by rw[e1,List.drop_left' (by rw[aAr,List.length_take];omega)]
 rw[h1,h2,List.set_eq_take_append_cons_drop,if_pos h,aAv,show x::l.drop (k+1)=[x]++l.drop (k+1)from rfl,aAv,aFy,List.append_assoc]
theorem owns_store{w:World}{base g n cap k:Nat}{e:TypeId}{d:List Of}(h:w.ownsRow base e 7 (.slice (some ⟨g,0,none⟩) n cap) n (aAa d))(hd:d.length=n)(hk:k<n)(x:Of):
  (w.setCells g (k*7) x.vals).ownsRow base e 7 (.slice (some ⟨g,0,none⟩) n cap) n (aAa (d.set k x)):=by
 obtain⟨_,hx⟩:=h;rcases hx with⟨hx,_⟩|⟨g',cap',cur,hv,hbase,hb,h1,h2,h3,h4⟩
 ·cases hx
 cases hv
 obtain⟨cur',hb',hc'⟩:=aDx (w:=w) (e:=e) x.vals (k*7) cur hb (by rw[Of.vals_len,h3];omega);refine⟨by rw[aAr,List.length_set,hd],.inr ⟨g,cap,cur',rfl,hbase,hb',h1,h2,?_,?_⟩⟩
 ·rw[←Array.length_toList,hc'];simp only[List.length_append,List.length_take,List.length_drop,Array.length_toList,Of.vals_len,h3];omega
 rw[hc',←aSq d k x (by omega),←h4,Of.vals_len];have hcl:cur.toList.length=cap*7:=by rw[Array.length_toList,h3]
 rw[List.take_take,Nat.min_eq_left (by omega),List.take_append,List.length_append,List.length_take,Of.vals_len,hcl,Nat.min_eq_left (by omega)];rw[List.take_of_length_le (l:=cur.toList.take (k*7)++x.vals) (by rw[List.length_append,List.length_take,Of.vals_len,hcl];omega),List.drop_take]
theorem zero_one(n:Nat):∀u∈(Builtin.zeroCells zOff.cells n).toList,u.oneCell'=true:=by
 intro u hu;unfold Builtin.zeroCells at hu;simp at hu;obtain⟨i,hi,rfl⟩:=hu;have h7:zOff.cells.size=7:=rfl;rw[h7];have h:=Nat.mod_lt i (show 7 > 0 by omega);generalize i%7=m at *
 match m,h with
 | 0,_=>rfl
 | 1,_=>rfl
 | 2,_=>rfl
 | 3,_=>rfl
 | 4,_=>rfl
 | 5,_=>rfl
 | 6,_=>rfl
theorem aOq(n:Nat):(Builtin.zeroCells zOff.cells n).toList.length=n*7:=by
 unfold Builtin.zeroCells;simp;rfl
theorem owns_cut{w:World}{base g n cap i:Nat}{e:TypeId}{d f:List Of}(h:w.ownsRow base e 7 (.slice (some ⟨g,0,none⟩) n cap) n (aAa d))(hd:d.length=n)(hi:i≤n)(hf:d.take i=f)(hfl:f.length=i)(zs:List Value)(hz:zs.length=(n - i)*7):
  (w.setCells g (i*7) zs).ownsRow base e 7 (.slice (some ⟨g,0,none⟩) i cap) i (aAa f):=by
 obtain⟨_,hx⟩:=h;rcases hx with⟨hx,_⟩|⟨g',cap',cur,hv,hbase,hb,h1,h2,h3,h4⟩
 ·cases hx
 cases hv
 obtain⟨cur',hb',hc'⟩:=aDx (w:=w) (e:=e) zs (i*7) cur hb (by rw[hz,h3];omega);refine⟨by rw[aAr,hfl],.inr ⟨g,cap,cur',rfl,hbase,hb',by omega,h2,?_,?_⟩⟩
 ·rw[←Array.length_toList,hc'];simp only[List.length_append,List.length_take,List.length_drop,Array.length_toList,hz,h3];omega
 have hcl:cur.toList.length=cap*7:=by rw[Array.length_toList,h3]
 rw[hc',List.append_assoc,List.take_append_of_le_length (by rw[List.length_take,hcl];omega),List.take_take,Nat.min_self];have e1:cur.toList.take (i*7)=(cur.toList.take (n*7)).take (i*7):=by rw[List.take_take,Nat.min_eq_left (by omega)]
 rw[e1,h4,←hf];have e0:aAa d=aAa (d.take i)++aAa (d.drop i):=by rw[←aAv,List.take_append_drop]
 rw[e0,List.take_left' (by rw[aAr,List.length_take];omega)]
theorem aH5{w:World}{base g n cap o:Nat}{e:TypeId}{xs:List Value}(h:w.ownsRow base e 7 (.slice (some ⟨g,0,none⟩) n cap) n xs)(ho:o<n*7):(w.cell? ⟨g,o,none⟩).isSome=true∧w.frozen? ⟨g,o,none⟩=false:=by
 obtain⟨_,hx⟩:=h;rcases hx with⟨hx,_⟩|⟨g',cap',cur,hv,hbase,hb,h1,h2,h3,h4⟩
 ·cases hx
 cases hv
 refine⟨?_,Blk.frozen (show Blk w g cur e from hb) o⟩;rw[Blk.cell (show Blk w g cur e from hb),Array.getElem?_eq_getElem (by rw[h3];omega)];rfl
theorem owns_there{w:World}{base g n cap k:Nat}{e:TypeId}{xs:List Value}(h:w.ownsRow base e 7 (.slice (some ⟨g,0,none⟩) n cap) n xs)(hk:k<n):w.there g (k*7) 7:=fun j hj=>aH5 h (by omega)
theorem aMg{P:Program}(w:World)(t e:TypeId)(ht:P.underlying t=some (.slice e))(hs:(sizeOf e).run P w=.ok 7 w)(g n cap j:Nat)(h:j<n)(h2:n≤cap):
  (Instr.sliceAt t (.slice (some ⟨g,0,none⟩) n cap) (some (.int .i64 (j:Int))) none none).run P w=.ok (.slice (some ⟨g,j*7,none⟩) (n - j) (cap - j)) w:=by
 have:=aFc (P:=P) w t e ht hs g n cap j (by omega) h2 (j:Int) rfl;unfold aHo at this;rw[if_neg (by omega)]at this;exact this
def aC7(l:List Of)(s b:Int)(j:Nat):Nat:=((l.take j).filter (aBj s b)).length
theorem aNc(l:List Of)(s b:Int){j:Nat}(h:j<l.length):aC7 l s b (j+1)=aC7 l s b j+(if aBj s b l[j]=true then 1 else 0):=by
 unfold aC7;rw[List.take_succ_eq_append_getElem h,List.filter_append,List.length_append];congr 1
 by_cases q:aBj s b l[j]=true <;> simp[List.filter_cons,q]
theorem keptN_le(l:List Of)(s b:Int)(j:Nat):aC7 l s b j≤j:=by
 unfold aC7;exact Nat.le_trans (List.length_filter_le _ _) (List.length_take_le _ _)
structure aF9(l d:List Of)(s b:Int)(j:Nat):Prop where
 len:d.length=l.length
 lt:aC7 l s b j<j
 low:d.take (aC7 l s b j)=(l.take j).filter (aBj s b)
 high:d.drop j=l.drop j
theorem aF9.start{l:List Of}{s b:Int}(h:aEe l s b<l.length):aF9 l l s b (aEe l s b+1)∧aC7 l s b (aEe l s b+1)=aEe l s b:=by
 have hall:(l.take (aEe l s b)).filter (aBj s b)=l.take (aEe l s b):=by
  rw[List.filter_eq_self];intro x hx;obtain⟨j,hj,rfl⟩:=List.mem_take_iff_getElem.1 hx;exact aQm (by omega)
 have hf:(l.take (aEe l s b+1)).filter (aBj s b)=l.take (aEe l s b):=by
  rw[List.take_succ_eq_append_getElem h,List.filter_append,hall];simp[List.filter_cons,posB_hit h]
 have hk:aC7 l s b (aEe l s b+1)=aEe l s b:=by
  unfold aC7;rw[hf,List.length_take];omega
 exact⟨⟨rfl,by omega,by rw[hk,hf],rfl⟩,hk⟩
theorem aF9.get{l d:List Of}{s b:Int}{j:Nat}(h:aF9 l d s b j)(hj:j<l.length):d[j]'(by rw[h.len];exact hj)=l[j]:=by
 have h1:d.drop j=l.drop j:=h.high;have h2:(d.drop j)[0]? = (l.drop j)[0]? := by rw[h1]
 rw[List.getElem?_drop,List.getElem?_drop,Nat.add_zero,List.getElem?_eq_getElem (by rw[h.len];exact hj),List.getElem?_eq_getElem hj]at h2;exact Option.some.inj h2
theorem aF9.skip{l d:List Of}{s b:Int}{j:Nat}(h:aF9 l d s b j)(hj:j<l.length)(hq:aBj s b l[j]=false):aF9 l d s b (j+1)∧aC7 l s b (j+1)=aC7 l s b j:=by
 have hk:aC7 l s b (j+1)=aC7 l s b j:=by rw[aNc l s b hj,hq];simp
 refine⟨⟨h.len,by have:=h.lt;omega,?_,?_⟩,hk⟩
 ·rw[hk,h.low,List.take_succ_eq_append_getElem hj,List.filter_append];simp[List.filter_cons,hq]
 rw[←List.drop_drop,h.high,List.drop_drop]
theorem aF9.keep{l d:List Of}{s b:Int}{j:Nat}(h:aF9 l d s b j)(hj:j<l.length)(hq:aBj s b l[j]=true):aF9 l (d.set (aC7 l s b j) l[j]) s b (j+1)∧aC7 l s b (j+1)=aC7 l s b j+1:=by
 have hk:aC7 l s b (j+1)=aC7 l s b j+1:=by rw[aNc l s b hj,hq];simp
 have hlt:=h.lt;refine⟨⟨by rw[List.length_set];exact h.len,by omega,?_,?_⟩,hk⟩
 ·have hl:aC7 l s b j<d.length:=by rw[h.len];omega
  rw[hk,List.take_succ_eq_append_getElem (by rw[List.length_set];exact hl),List.take_set_of_le yL,h.low,List.getElem_set_self,List.take_succ_eq_append_getElem hj,List.filter_append];simp[List.filter_cons,hq]
 rw[List.drop_set_of_lt (by omega),←List.drop_drop,h.high,List.drop_drop]
def DelAt(w:World)(base g cap:Nat)(l:List Of)(s b:Int)(s5 s6:Value)(wr:World):Prop:=
 ∃(j:Nat) (d:List Of),j≤l.length∧s5=.int .i64 (aC7 l s b j:Nat)∧s6=.int .i64 j∧aF9 l d s b j∧wr.ownsRow base 126 7 (.slice (some ⟨g,0,none⟩) l.length cap) l.length (aAa d)∧Keep (·=g) w wr
theorem pdelf_any{w:World}{base c1 c2:Nat}{l:List Of}{s b:Int}{v:Value}(h:w.ownsRow base 126 7 v l.length (aAa l))(hl:l.length≤1000)(h1:Blk w c1 #[.int .u8 s] 40)(h2:Blk w c2 #[.int .u8 b] 40):
  Calls Tryz.prog 113 #[v,.func (.func 114) #[] #[.pointer (some ⟨c1,0,none⟩),.pointer (some ⟨c2,0,none⟩)]] w fun e w'=>∃v',e=.returned v'∧w'.ownsRow base 126 7 v' (l.filter (aBj s b)).length (aAa (l.filter (aBj s b)))∧Keep (fun k=>v.ownBlock=some k) w w'∧v'.ownBlock=v.ownBlock:=by
 have CI:=yH (pidxB_any h h1 h2)
 by_cases hp:aEe l s b<l.length
 ·rw[show idxB l s b=.int .i64 (aEe l s b:Nat) by unfold idxB;rw[if_pos hp]]at CI;obtain⟨D0,kp⟩:=aF9.start hp;obtain⟨ao,cap,rfl,hc1,hc2,hc3,hc4⟩:=aAd h;obtain⟨g,rfl,hb1,hb2,_,_⟩:=hc4 (by omega);have hne1:c1≠g:=fun e=>(aAl h h1 (by decide)) g rfl e.symm
  have hne2:c2≠g:=fun e=>(aAl h h2 (by decide)) g rfl e.symm
  have HO:=yH h;have K1:=yH h1;have K2:=yH h2;have HD0:=yH D0;have HKP:=yH kp;have HN:=yH (And.intro hne1 hne2);have e1:((aEe l s b:Int) == -1)=false:=by simp <;> omega
  unfold maxLen at hc2;generalize hpk:aEe l s b=k0 at *;have HPK:=yH hpk;clear hc3 hc4 h h1 h2 D0 kp hne1 hne2 hpk;go_enter Tryz.func113,Tryz.ntmps113;go_wp2_with fail;refine CI.out.mono ?_;rintro e w1 ⟨rfl,b1⟩;have HO1:=yH (aAc HO.out b1);have K11:=yB K1 b1;have K21:=yB K2 b1;have HB1:=yH b1;clear b1 CI HO K1 K2;go_wp2_with fail
  go_loopw [5,6] (DelAt w1 base g cap l s b) (fun _ j _=>l.length - (intOf j).toNat)
  case atStart=>exact⟨k0+1,l,by omega,by rw[HKP.out],by go_num,HD0.out,HO1.out,Keep.refl _ _⟩
  obtain⟨j,d,hj,rfl,rfl,hD,hown,hk⟩:=hrel;have hgl:g<wr.heap.size:=(aAe hown rfl).2.1
  by_cases hjl:j<l.length
  ·have hdl:j<d.length:=by rw[hD.len];exact hjl
   have hget:=hD.get hjl;obtain⟨ao',cap',hv,_,_,_,hr⟩:=aAd hown
   cases hv
   obtain⟨g',hg',_,_,hcell,hfr⟩:=hr (by omega)
   cases hg'
   obtain⟨e0,e1,e2,e3,e4,e5,e6⟩:=aC5 (w:=wr) (ls:=d) (fun t ht=>hcell t (by rw[←hD.len];exact ht)) hdl;rw[hget]at e0 e1 e2 e3 e4 e5 e6;have HDv:=yH hD;have HW:=yH hown;have HK:=yH hk;have HF:=yH hfr;have K12:=yH (K11.out.keep hk HN.out.1);have K22:=yH (K21.out.keep hk HN.out.2);have hkl:=keptN_le l s b j;have DS:=yH (fun hq=>hD.skip hjl hq);have DK:=yH (fun hq=>hD.keep hjl hq);clear hget hr hcell hfr hown hk hD hdl;generalize l[j]=x at *;generalize hkn:aC7 l s b j=m at *;clear hkn;have bw:=(Below.refl wr.heap.size wr).alloc yL (.cells #[.int .u64 x.se,.int .u8 x.ow,.int .u8 x.sl,.int .u8 x.bu,.int .i64 x.lf,.int .i64 x.nu,.int .i64 x.de] 126);have CB:=yH (aQl x (K12.out.below bw K12.out.lt) (K22.out.below bw K22.out.lt));have KX:=yH (pAA wr #[.int .u64 x.se,.int .u8 x.ow,.int .u8 x.sl,.int .u8 x.bu,.int .i64 x.lf,.int .i64 x.nu,.int .i64 x.de] 126);have HBW:=yH bw;clear bw
   cases hq:aBj s b x with
   | false=>
    have E:=yH (DS.out hq);rw[hq]at CB;clear DS DK hq;go_wp2_with fail;refine CB.out.mono ?_;rintro e w2 ⟨rfl,b2⟩;have HB2:=yT HBW b2;clear b2;go_wp2_with fail;go_roundw
    case rel=>exact⟨j+1,d,by omega,by rw[E.out.2],by go_num,E.out.1,aAc HW.out HB2.out,HK.out.trans (pAE HB2.out)⟩
    case measure=>simp[intOf];omega
   | true=>
    have E:=yH (DK.out hq);rw[hq]at CB;clear DS DK hq;go_wp2_with fail;refine CB.out.mono ?_;rintro e w2 ⟨rfl,b2⟩;have HB2:=yT HBW b2;have KX2:=KX.out.below b2 KX.out.lt;have d0:=KX2.cell 0;have d1:=KX2.cell 1;have d2:=KX2.cell 2;have d3:=KX2.cell 3;have d4:=KX2.cell 4;have d5:=KX2.cell 5;have d6:=KX2.cell 6;simp at d0 d1 d2 d3 d4 d5 d6;have hxl:=KX2.lt;have HW2:=yH (aAc HW.out HB2.out);have HT:=yH (owns_there HW2.out (k:=m) (by omega));obtain⟨W3,hW3⟩:∃W3,W3=w2.setCells g (m*7) [.int .u64 x.se,.int .u8 x.ow,.int .u8 x.sl,.int .u8 x.bu,.int .i64 x.lf,.int .i64 x.nu,.int .i64 x.de]:=⟨_,rfl⟩;have HW3:=yH hW3;have HO3:=yH (show W3.ownsRow base 126 7 (.slice (some ⟨g,0,none⟩) l.length cap) l.length (aAa (d.set m x)) by rw[hW3];exact owns_store HW2.out HDv.out.len (by omega) x);have HK3:=yH (show Keep (·=g) w1 W3 by rw[hW3];exact Keep.setCells _ _ (HK.out.trans (pAE HB2.out)) (.inl rfl));clear b2 KX2 hW3;go_wp2_with (refine wpList_store_mid rfl 126 (.tmp 33) (.tmp 32) rfl g (m*7) #[.int .u64 x.se,.int .u8 x.ow,.int .u8 x.sl,.int .u8 x.bu,.int .i64 x.lf,.int .i64 x.nu,.int .i64 x.de] rfl rfl HT.out (by kernel_rfl) (by simp[Value.oneCell']) ?_;rw[←HW3.out]);go_roundw
    case rel=>exact⟨j+1,d.set m x,by omega,by rw[E.out.2];go_num,by go_num,E.out.1,HO3.out,HK3.out⟩
    case measure=>simp[intOf];omega
  have hje:j=l.length:=by omega
  subst hje;have hkl:=hD.lt;have hlo:=hD.low;have hdn:=hD.len;rw[List.take_of_length_le yL]at hlo;have hfl:(l.filter (aBj s b)).length=aC7 l s b l.length:=by unfold aC7;rw[List.take_of_length_le yL]
  have HK:=yH hk;have HC:=yH (owns_cut hown hdn (by omega) hlo hfl (Builtin.zeroCells zOff.cells (l.length - aC7 l s b l.length)).toList (by rw[aOq]))
  have hcl:∀ty,(Builtin.clear_ #[61] ty #[.slice (some ⟨g,aC7 l s b l.length*7,none⟩) (l.length - aC7 l s b l.length) (cap - aC7 l s b l.length)]).run Tryz.prog wr=.ok (.tuple #[]) (wr.setCells g (aC7 l s b l.length*7) (Builtin.zeroCells zOff.cells (l.length - aC7 l s b l.length)).toList):=fun ty=>
   aGv wr 61 126 ty zOff Tryz.underlying61 (Tryz.zeroValue126) g (aC7 l s b l.length*7) _ _ (by omega) (zero_one _)
    (fun t ht=>(aH5 hown (by rw[aOq]at ht;omega)).1) (fun t ht=>(aH5 hown (by rw[aOq]at ht;omega)).2)
  have hr:=aMg (P:=Tryz.prog) wr 61 126 Tryz.underlying61 (Tryz.sizeOf126 _) g l.length cap (aC7 l s b l.length) hkl (by omega);obtain⟨W3,hW3⟩:∃W3,W3=wr.setCells g (aC7 l s b l.length*7) (Builtin.zeroCells zOff.cells (l.length - aC7 l s b l.length)).toList:=⟨_,rfl⟩;have HK3:=yH (show Keep (·=g) w1 W3 by rw[hW3];exact Keep.setCells _ _ HK.out (.inl rfl));simp only[←hW3]at hcl HC;rw[←hfl]at HC hcl hr hkl ⊢;obtain⟨m,hm⟩:∃m,(l.filter (aBj s b)).length=m:=⟨_,rfl⟩;rw[hm]at HC hcl hr hkl ⊢;have HM:=yH hm;clear hm;have hic:m≤cap:=by omega
  clear hW3 hfl hlo hdn hown hk hD;go_wp2_with fail;refine bodyPost_ret (v:=.slice (some ⟨g,0,none⟩) m cap) (by simp[results,Tryz.results113,go_sem]) rfl ?_;exact⟨_,rfl,by rw[HM.out];exact HC.out,((pAE HB1.out).trans HK3.out).mono (fun k _ (hk:k=g)=>by rw[hk];rfl),rfl⟩
 rw[show idxB l s b=.int .i64 (-1) by unfold idxB;rw[if_neg hp]]at CI
 have hfe:l.filter (aBj s b)=l:=by
  rw[List.filter_eq_self];intro x hx;obtain⟨j,hj,rfl⟩:=List.mem_iff_getElem.1 hx;exact aQm (by have:=posB_le l s b;omega)
 rw[hfe];obtain⟨ao,cap,rfl,_⟩:=aAd h;have HO:=yH h;clear h h1 h2 hp hfe;go_enter Tryz.func113,Tryz.ntmps113;go_wp2_with fail;refine CI.out.mono ?_;rintro e w1 ⟨rfl,b1⟩;have HB1:=yH b1;clear b1 CI;go_wp2_with fail;refine bodyPost_ret (v:=.slice ao l.length cap) (by simp[results,Tryz.results113,go_sem]) rfl ?_;exact⟨_,rfl,aAc HO.out HB1.out,pAE HB1.out,rfl⟩
theorem pbest_of{w:World}{base:Nat}{pv v:Value}{l:List Of}{N:Int}{s b:Int}(hc:∀w',Below w.heap.size w w'→Calls Tryz.prog 60 #[pv] w' fun e w''=>e=.returned v∧w'=w'')(h:w.ownsRow base 126 7 v l.length (aAa l))(hI:BInv l N):
  Calls Tryz.prog 64 #[pv,.int .u8 s,.int .u8 b] w (aFu w 76 7 (aBu l s b).length (aAa (aBu l s b))):=by
 have hlen:=hI.len;have hbw:=((Below.refl w.heap.size w).alloc yL (.cells #[.int .u8 s] 40)).alloc (by simp) (.cells #[.int .u8 b] 40);have HB:=yH hbw;have K1:=yH ((pAA w #[.int .u8 s] 40).alloc (.cells #[.int .u8 b] 40));have K2:=yH (pAC (w.alloc (.cells #[.int .u8 s] 40)) #[.int .u8 b] 40 (g:=w.heap.size+1) (by simp));have C1:=yH (hc _ hbw);have C2:=yH (aM5 (aAc h hbw) (by omega));obtain⟨bp,bs⟩:=bestO_is hI.may hI.rise s b
 have hgood:∀x∈l.filter (aBj s b),x.may∧0≤x.se∧x.se≤18446744073709551615:=fun x hx=>by
  have hx:=(List.mem_filter.1 hx).1;have:=hI.bd x hx;have:=hI.n2;exact⟨hI.may x hx,by omega,by omega⟩
 have hne:(l.filter (aBj s b)).Pairwise fun x y=>x.se≠y.se:=(hI.rise.filter _).imp fun h=>by omega
 have hfl:(l.filter (aBj s b)).length≤1000:=Nat.le_trans (List.length_filter_le _ _) (by omega);have HS:=yH (fun(w:World) (base:Nat) (v:Value) (h:w.ownsRow base 126 7 v (l.filter (aBj s b)).length (aAa (l.filter (aBj s b))))=>sortO_any hgood bp bs hne hfl h);have HM:=yH (show(aBu l s b).length≤1000 by rw[bp.length_eq];exact hfl);clear hbw hc h hI bp bs hgood hne hfl;go_enter Tryz.func64,Tryz.ntmps64;go_wp2_with fail;generalize hWW:(w.alloc (.cells #[.int .u8 s] 40)).alloc (.cells #[.int .u8 b] 40)=W at *;have HWs:=yH (show W.heap.size=w.heap.size+2 by rw[←hWW];simp);clear hWW;refine C1.out.mono ?_;rintro e W ⟨rfl,rfl⟩;go_wp2_with fail;refine C2.out.mono ?_;rintro e w1 ⟨v1,rfl,o1,b1⟩;have CD:=yH (pdelf_any o1 (by omega) (K1.out.below b1 K1.out.lt) (K2.out.below b1 K2.out.lt));have HB1:=yT HB b1;have HO1:=yH o1;have HW1:=yH b1.size;clear o1 b1 C2 C1;go_wp2_with fail;refine CD.out.mono ?_;rintro e w2 ⟨v2,rfl,o2,k2,e2⟩;have HK2:=yH k2;have CS:=yH (HS.out _ _ _ o2);have HE:=yH e2;have hv2:∃ao c,v2=.slice ao (l.filter (aBj s b)).length c:=by obtain⟨ao,c,hv,_⟩:=aAd o2;exact⟨ao,c,hv⟩
 have HB2:=yH (HB1.out.trans (k2.below HB1.out.size (fun k hk e=>by have:=(aAe HO1.out e).1;have:=HWs.out;omega)));have HO2:=yH o2;clear o2 k2 e2 CD;obtain⟨ao,c,rfl⟩:=hv2;go_wp2_with fail;refine CS.out.mono ?_;rintro e w3 ⟨rfl,o3,k3⟩;have CT:=yH (told_any o3 HM.out);have HB3:=yH (HB2.out.trans (k3.below HB2.out.size (fun k hk e=>by have:=(aAe HO2.out e).1;have:=HWs.out;omega)));clear o3 k3 CS;go_wp2_with fail;refine CT.out.mono ?_;rintro e w4 ⟨v',rfl,h1,b4⟩;have H1:=yH h1;have HB4:=yT HB3 b4;clear h1 b4 CT;go_wp2_with fail;refine bodyPost_ret (v:=v') (by simp[results,Tryz.results64,go_sem]) rfl ?_;exact⟨v',rfl,H1.out.base HB3.out.size,HB4.out⟩
theorem pbest_any{w:World}{base g:Nat}{l:List Of}{N:Int}{vl:Value}(h:PB w base g l N vl)(hI:BInv l N)(s b:Int):
  Calls Tryz.prog 64 #[.pointer (some ⟨g,0,none⟩),.int .u8 s,.int .u8 b] w (aFu w 76 7 (aBu l s b).length (aAa (aBu l s b))):=by
 obtain⟨ao,cap,rfl,_⟩:=aAd h.row;exact pbest_of (fun w' k=>ball_any (h.below k).blk) h.row hI
structure FstW(w:World)(ch cs cw cn base G M gb:Nat)(ps:List Int)(ls:List Ln)(l:List Of)(N:Int)(vb:Value)(fr pt get give n most want x:Int):Prop where
 h:Blk w ch #[.pointer (some ⟨G,0,none⟩),.pointer (some ⟨gb,0,none⟩)] 32
 s:Blk w cs #[.int .u8 fr,.int .u8 pt,.int .u8 get,.int .u8 give,.int .i64 n,.int .i64 most] 94
 wn:Blk w cw #[.int .i64 want] 2
 x:Blk w cn #[.int .i64 x] 2
 led:LedM w G M ps ls
 book:PB w base gb l N vb
 ne:¬ch=cn∧¬cs=cn∧¬cw=cn∧¬G=cn∧¬M=cn∧¬Foot gb vb cn
theorem FstW.keep{w w':World}{ch cs cw cn base G M gb:Nat}{ps:List Int}{ls:List Ln}{l:List Of}{N:Int}{vb:Value}{fr pt get give n most want:Int}{x y:Int}(h:FstW w ch cs cw cn base G M gb ps ls l N vb fr pt get give n most want x)(k:Keep (·=cn) w w')(hx:Blk w' cn #[.int .i64 y] 2):FstW w' ch cs cw cn base G M gb ps ls l N vb fr pt get give n most want y:=by
 obtain⟨h1,h2,h3,h4,h5,h6⟩:=h.ne;exact⟨h.h.keep k h1,h.s.keep k h2,h.wn.keep k h3,hx,h.led.keep k h4 h5,h.book.keep k (fun e=>h6 (.inl e.symm)) (fun b hb e=>h6 (.inr (by rw[←e];exact hb))),h.ne⟩
theorem FstW.below{w w':World}{ch cs cw cn base G M gb:Nat}{ps:List Int}{ls:List Ln}{l:List Of}{N:Int}{vb:Value}{fr pt get give n most want:Int}{x:Int}(h:FstW w ch cs cw cn base G M gb ps ls l N vb fr pt get give n most want x)(k:Below w.heap.size w w'):FstW w' ch cs cw cn base G M gb ps ls l N vb fr pt get give n most want x:=
 h.keep (pAE k) (h.x.below k h.x.lt)
theorem first1_any(HMy:aEm)(o:Of){w:World}{ch cs cw cn base G M gb:Nat}{ps:List Int}{ls:List Ln}{l:List Of}{N:Int}{vb:Value}{fr pt get give n most want:Int}{x:Int}(h:FstW w ch cs cw cn base G M gb ps ls l N vb fr pt get give n most want x)(hI:LInv ps ls)(hJ:BInv l N)(ht:In8 fr)(hp:In8 pt)(hw:In64 want)(hs:0≤o.se∧o.se≤18446744073709551615):
  Calls Tryz.prog 140 #[.agg #[.int .u64 o.se,.int .u8 o.ow,.int .u8 o.sl,.int .u8 o.bu,.int .i64 o.lf,.int .i64 o.nu,.int .i64 o.de],.pointer (some ⟨ch,0,none⟩),.pointer (some ⟨cs,0,none⟩),.pointer (some ⟨cw,0,none⟩),.pointer (some ⟨cn,0,none⟩)] w
   fun e w'=>e=.returned (.bool (decide (0<mayS ps ls l fr pt want 1099511627776 o.se)))∧FstW w' ch cs cw cn base G M gb ps ls l N vb fr pt get give n most want (mayS ps ls l fr pt want 1099511627776 o.se)∧Keep (·=cn) w w':=by
 have b0:=(Below.refl w.heap.size w).alloc yL (.cells #[.int .u64 o.se,.int .u8 o.ow,.int .u8 o.sl,.int .u8 o.bu,.int .i64 o.lf,.int .i64 o.nu,.int .i64 o.de] 76);have KO:=yH (pAA w #[.int .u64 o.se,.int .u8 o.ow,.int .u8 o.sl,.int .u8 o.bu,.int .i64 o.lf,.int .i64 o.nu,.int .i64 o.de] 76);have HF:=yH (h.below b0);have B0:=yH b0;have HLT:=yH h.x.lt;have CM:=yH (pmayS_any HMy (h.led.below b0) hI (h.book.below b0) hJ o.se fr pt want 1099511627776 hs ht hp hw (by unfold In64;decide));obtain⟨k,hk⟩:∃k,mayS ps ls l fr pt want 1099511627776 o.se=k:=⟨_,rfl⟩;rw[hk]at CM ⊢;clear b0 h hI hJ ht hp hw hs hk;generalize hW:w.alloc (.cells #[.int .u64 o.se,.int .u8 o.ow,.int .u8 o.sl,.int .u8 o.bu,.int .i64 o.lf,.int .i64 o.nu,.int .i64 o.de] 76)=W at *;have HW:=yH hW;clear hW;have h0:=HF.out.h.cell 0;have h1:=HF.out.h.cell 1;have hl:=HF.out.h.lt;have s0:=HF.out.s.cell 0;have s1:=HF.out.s.cell 1;have sl:=HF.out.s.lt;have w0:=HF.out.wn.cell 0;have wl:=HF.out.wn.lt;have o0:=KO.out.cell 0;have ol:=KO.out.lt;have fz:=HF.out.x.frozen 0;simp at h0 h1 s0 s1 w0 o0;go_enter Tryz.func140,Tryz.ntmps140
 go_upto_region 1 with fail
 rw[HW.out];go_wp2_with fail;refine CM.out.mono ?_;rintro e w1 ⟨rfl,b1⟩;have HF1:=yH (HF.out.below b1);have B1:=yT B0 b1;clear b1 h0 h1 hl s0 s1 sl w0 wl o0 ol fz HF KO CM B0;have x0:=HF1.out.x.cell 0;have xl:=HF1.out.x.lt;have fz:=HF1.out.x.frozen 0;have hst:=(HF1.out.x.set 0 (.int .i64 k));have c0:=hst.cell 0;simp at x0 c0;clear hst;go_wp2_with fail;go_ret;have kk:Keep (·=cn) w1 (w1.setCell ⟨cn,0,none⟩ (.int .i64 k)):=Keep.setCell (S:=(·=cn)) (Keep.refl _ _) (p:=⟨cn,0,none⟩) (.inl rfl) _;refine⟨rfl,HF1.out.keep kk (HF1.out.x.set 0 _),(pAE (S:=(·=cn)) B1.out).trans kk⟩
def IxfAt(W:World)(ch cs cw cn base G M gb:Nat)(ps:List Int)(ls:List Ln)(l:List Of)(N:Int)(vb:Value)(fr pt get give n most want:Int)(os:List Of)(i:Value)(wr:World):Prop:=
 ∃(k:Nat) (x:Int),k≤os.length∧i=.int .i64 k∧FstW wr ch cs cw cn base G M gb ps ls l N vb fr pt get give n most want x∧Keep (·=cn) W wr∧Hid (aBh ps ls l fr pt want 1099511627776 os=aBh ps ls l fr pt want 1099511627776 (os.drop k))
def IxfPost(W:World)(ch cs cw cn base G M gb:Nat)(ps:List Int)(ls:List Ln)(l:List Of)(N:Int)(vb:Value)(fr pt get give n most want:Int)(os:List Of)(e:Ending)(w':World):Prop:=
 (∃(k:Nat) (x:Int) (hk:k<os.length),e=.returned (.int .i64 k)∧FstW w' ch cs cw cn base G M gb ps ls l N vb fr pt get give n most want x∧Keep (·=cn) W w'∧aBh ps ls l fr pt want 1099511627776 os=some (os[k].se,x))∨
 (∃x:Int,e=.returned (.int .i64 (-1))∧FstW w' ch cs cw cn base G M gb ps ls l N vb fr pt get give n most want x∧Keep (·=cn) W w'∧aBh ps ls l fr pt want 1099511627776 os=none)
theorem aSr(HMy:aEm){w:World}{ch cs cw cn base b2 G M gb:Nat}{ps:List Int}{ls:List Ln}{l:List Of}{N:Int}{vb:Value}{fr pt get give n most want:Int}{x:Int}{os:List Of}{v:Value}(h:FstW w ch cs cw cn base G M gb ps ls l N vb fr pt get give n most want x)(hI:LInv ps ls)(hJ:BInv l N)(ht:In8 fr)(hp:In8 pt)(hw:In64 want)
  (hv:aC8 w b2 76 7 v os.length (aAa os))(hs:∀o∈os,0≤o.se∧o.se≤18446744073709551615)(hne:∀b,v.ownBlock=some b→¬b=cn):
  Calls Tryz.prog 139 #[v,.func (.func 140) #[] #[.pointer (some ⟨ch,0,none⟩),.pointer (some ⟨cs,0,none⟩),.pointer (some ⟨cw,0,none⟩),.pointer (some ⟨cn,0,none⟩)]] w (IxfPost w ch cs cw cn base G M gb ps ls l N vb fr pt get give n most want os):=by
 obtain⟨ao,cap,rfl,hc1,hc2,hc3,hc4⟩:=hv.look;have HC:=yH hc4;have HNE:=yH hne;have HFw:=yH h;have CF:=yH (fun(o:Of) (w':World) (x:Int) (hs:0≤o.se∧o.se≤18446744073709551615) (q:FstW w' ch cs cw cn base G M gb ps ls l N vb fr pt get give n most want x)=>first1_any HMy o q hI hJ ht hp hw hs);have HS:=yH hs;unfold maxLen at hc2;clear hc3 hc4 hv h hI hJ ht hp hw hs hne;go_enter Tryz.func139,Tryz.ntmps139;go_wp2_with fail
 go_loopw [5,8] (fun _ i wr=>IxfAt w ch cs cw cn base G M gb ps ls l N vb fr pt get give n most want os i wr) (fun _ i _=>os.length - (intOf i).toNat)
 case atStart=>exact⟨0,x,Nat.zero_le _,rfl,HFw.out,Keep.refl _ _,yH rfl⟩
 obtain⟨k,x,hk,rfl,hF,hK,HE⟩:=hrel
 by_cases hkl:k<os.length
 ·have hki:(k:Int)<(os.length:Int):=by omega
  have hk0:(0:Int)≤(k:Int):=by omega
  obtain⟨b,rfl,hb1,hb2,hcell,_⟩:=HC.out (by omega);have hbn:¬b=cn:=HNE.out b rfl;have hbl:b<wr.heap.size:=yM hb2 hK.size;obtain⟨e0,e1,e2,e3,e4,e5,e6⟩:=aC5 (w:=wr) (fun j hj=>by rw[hK.cell (p:=⟨b,j,none⟩) hb2 hbn];exact hcell j hj) hkl;obtain⟨m,hm⟩:∃m,mayS ps ls l fr pt want 1099511627776 os[k].se=m:=⟨_,rfl⟩;have C1:=yH (CF.out os[k] wr x (HS.out _ (List.getElem_mem _)) hF);rw[hm]at C1
  have HD:Hid (aBh ps ls l fr pt want 1099511627776 (os.drop k)=if 0<m then some (os[k].se,m)else aBh ps ls l fr pt want 1099511627776 (os.drop (k+1))):=yH (by
   rw[List.drop_eq_getElem_cons hkl];show(if 0<mayS ps ls l fr pt want 1099511627776 os[k].se then some (os[k].se,mayS ps ls l fr pt want 1099511627776 os[k].se)else _)=_;rw[hm])
  have HK:=yH hK;have HKL:=yH hkl;have HSE:Hid (∃s,os[k].se=s):=yH ⟨_,rfl⟩;clear hcell hm hF hK;clear HSE;generalize ho:os[k]=o at *;have HO:=yH ho;clear ho hkl
  by_cases hq:0<m
  ·rw[decide_eq_true hq]at C1;rw[if_pos hq]at HD;clear hq;go_wp2_with fail;refine C1.out.mono ?_;rintro e w2 ⟨rfl,f2,k2⟩;have HF2:=yH f2;have HK2:=yH (HK.out.trans k2);clear f2 k2 e0 e1 e2 e3 e4 e5 e6 C1;go_wp2_with fail;go_ret;exact .inl ⟨k,m,HKL.out,rfl,HF2.out,HK2.out,by rw[HE.out,HD.out];exact congrArg (fun z:Of=>some (z.se,m)) HO.out.symm⟩
  rw[decide_eq_false hq]at C1;rw[if_neg hq]at HD;clear hq;go_wp2_with fail;refine C1.out.mono ?_;rintro e w2 ⟨rfl,f2,k2⟩;have HF2:=yH f2;have HK2:=yH (HK.out.trans k2);clear f2 k2 e0 e1 e2 e3 e4 e5 e6 C1;go_wp2_with fail;go_roundw
  case rel=>exact⟨k+1,m,by have:=HKL.out;omega,by go_num,HF2.out,HK2.out,yH (by rw[HE.out,HD.out])⟩
  case measure=>simp[intOf];omega
 have hkn:k=os.length:=by omega
 have HN:Hid (aBh ps ls l fr pt want 1099511627776 (os.drop k)=none):=yH (by rw[hkn,List.drop_length];rfl);have HFl:=yH hF;have HK:=yH hK;clear hF hK;go_wp2_with fail;go_ret;exact .inr ⟨x,rfl,HFl.out,HK.out,by rw[HE.out,HN.out]⟩
theorem best_seqs{l:List Of}{N:Int}(hJ:BInv l N)(s b:Int):∀o∈aBu l s b,0≤o.se∧o.se≤18446744073709551615:=fun o ho=>by
 have hm:=hJ.bd o (best_mem hJ ho).1;have:=hJ.n2;omega
theorem pfirst_any(HMy:aEm){w:World}{base G M gb:Nat}{ps:List Int}{ls:List Ln}{l:List Of}{N:Int}{vb:Value}{fr pt get give n most want:Int}(hL:LedM w G M ps ls)(hI:LInv ps ls)(hP:PB w base gb l N vb)(hJ:BInv l N)(ht:In8 fr)(hp:In8 pt)(hg:In8 get)(hv:In8 give)(hw:In64 want):
  Calls Tryz.prog 85 #[.agg #[.int .u8 fr,.int .u8 pt,.int .u8 get,.int .u8 give,.int .i64 n,.int .i64 most],.agg #[.pointer (some ⟨G,0,none⟩),.pointer (some ⟨gb,0,none⟩)],.int .i64 want] w (yR w (.tuple #[.int .u64 ((aBh ps ls l fr pt want 1099511627776 (aBu l get give)).getD (0,0)).1,.int .i64 ((aBh ps ls l fr pt want 1099511627776 (aBu l get give)).getD (0,0)).2])):=by
 have hlt:=And.intro hL.blk.lt (And.intro hL.map.lt (fun b (hb:Foot gb vb b)=>(hP.lt hb).2));have b0:=(Below.refl w.heap.size w).alloc yL (.cells #[.int .u8 fr,.int .u8 pt,.int .u8 get,.int .u8 give,.int .i64 n,.int .i64 most] 94);have b1:=b0.alloc b0.size (.cells #[.pointer (some ⟨G,0,none⟩),.pointer (some ⟨gb,0,none⟩)] 32);have b2:=b1.alloc b1.size (.cells #[.int .i64 want] 2);have b3:=b2.alloc b2.size (.cells #[.int .i64 0] 2)
 have hF0:FstW ((((w.alloc (.cells #[.int .u8 fr,.int .u8 pt,.int .u8 get,.int .u8 give,.int .i64 n,.int .i64 most] 94)).alloc (.cells #[.pointer (some ⟨G,0,none⟩),.pointer (some ⟨gb,0,none⟩)] 32)).alloc (.cells #[.int .i64 want] 2)).alloc (.cells #[.int .i64 0] 2)) (w.heap.size+1) w.heap.size (w.heap.size+2) (w.heap.size+3) base G M gb ps ls l N vb fr pt get give n most want 0:=
  ⟨((pAC (w.alloc (.cells #[.int .u8 fr,.int .u8 pt,.int .u8 get,.int .u8 give,.int .i64 n,.int .i64 most] 94)) #[.pointer (some ⟨G,0,none⟩),.pointer (some ⟨gb,0,none⟩)] 32 (g:=w.heap.size+1) (by simp)).alloc _).alloc _,(((pAA w #[.int .u8 fr,.int .u8 pt,.int .u8 get,.int .u8 give,.int .i64 n,.int .i64 most] 94).alloc _).alloc _).alloc _,(pAC ((w.alloc (.cells #[.int .u8 fr,.int .u8 pt,.int .u8 get,.int .u8 give,.int .i64 n,.int .i64 most] 94)).alloc (.cells #[.pointer (some ⟨G,0,none⟩),.pointer (some ⟨gb,0,none⟩)] 32)) #[.int .i64 want] 2 (g:=w.heap.size+2) (by simp)).alloc _,pAC _ _ _ (by simp),hL.below b3,hP.below b3,
   by omega,by omega,by omega,by omega,by omega,fun hb=>by have:=hlt.2.2 _ hb;omega⟩
 generalize hW:(((w.alloc (.cells #[.int .u8 fr,.int .u8 pt,.int .u8 get,.int .u8 give,.int .i64 n,.int .i64 most] 94)).alloc (.cells #[.pointer (some ⟨G,0,none⟩),.pointer (some ⟨gb,0,none⟩)] 32)).alloc (.cells #[.int .i64 want] 2)).alloc (.cells #[.int .i64 0] 2)=W at *;have HW:=yH hW;have HF:=yH hF0;have B:=yH b3;have CB:=yH (pbest_any (hP.below b3) hJ get give)
 have CI:=yH (fun(w':World) (x:Int) (b2:Nat) (v:Value) (q:FstW w' (w.heap.size+1) w.heap.size (w.heap.size+2) (w.heap.size+3) base G M gb ps ls l N vb fr pt get give n most want x) (hv:aC8 w' b2 76 7 v (aBu l get give).length (aAa (aBu l get give))) (hne:∀b,v.ownBlock=some b→¬b=w.heap.size+3)=>
  aSr HMy q hI hJ ht hp hw hv (best_seqs hJ get give) hne)
 clear hlt b0 b1 b2 b3 hF0 hW hL hI hP hJ ht hp hg hv hw;obtain⟨os,hos⟩:∃os,aBu l get give=os:=⟨_,rfl⟩;rw[hos]at CB CI ⊢;clear hos;obtain⟨R,hR⟩:∃R,(aBh ps ls l fr pt want 1099511627776 os).getD (0,0)=R:=⟨_,rfl⟩;rw[hR];have HR:=yH hR;clear hR;have h0:=HF.out.h.cell 0;have h1:=HF.out.h.cell 1;have hl:=HF.out.h.lt;have s2:=HF.out.s.cell 2;have s3:=HF.out.s.cell 3;have sl:=HF.out.s.lt;simp at h0 h1 s2 s3;go_enter Tryz.func85,Tryz.ntmps85
 go_upto_region 1 with fail
 rw[HW.out];go_wp2_with fail;refine CB.out.mono ?_;rintro e w1 ⟨v,rfl,hv,b1⟩;have HF1:=yH (HF.out.below b1);have HV:=yH hv;have B1:=yT B b1;have CX:=yH (CI.out w1 0 _ v HF1.out hv (fun b hb e=>by have:=(hv.type hb).1;have:=HF.out.x.lt;omega));have hmf:∀(fn:Fn) (first cap:Array Value) (w:World),(Instr.makeFunc fn first cap).run Tryz.prog w=.ok (.func fn first cap) w:=fun _ _ _ _=>rfl
 have VNE:Hid (∀b,v.ownBlock=some b→¬b=w.heap.size+3):=yH (fun b hb e=>by have:=(hv.type hb).1;have:=HF.out.x.lt;omega);clear hv b1 h0 h1 hl s2 s3 sl HF B CB CI;go_wp2_with fail;refine CX.out.mono ?_;rintro e w2 (⟨k,x,hk,rfl,f2,k2,hfs⟩|⟨x,rfl,f2,k2,hfs⟩)
 ·have ER:Hid (R=(os[k].se,x)):=yH (by rw[←HR.out,hfs];rfl);have B2:=yH (B1.out.trans (k2.below (B:=w.heap.size) B1.out.size (fun j hj e=>by omega)));obtain⟨ao,cap,rfl,hc1,hc2,hc3,hc4⟩:=(HV.out.keep k2 VNE.out).look;obtain⟨b,rfl,hb1,hb2,hcell,_⟩:=hc4 (by omega);obtain⟨e0,_⟩:=aC5 (w:=w2) hcell hk;have HF2:=yH f2;have x0:=f2.x.cell 0;have xl:=f2.x.lt;have fz:=f2.x.frozen 0;have hst:=(HF2.out.x.set 0 (.int .i64 x)).cell 0;simp at x0 hst;have q0:decide ((k:Int)<0)=false:=by simp
  have q1:(0:Int)≤(k:Int)∧(k:Int)<(os.length:Int):=by omega
  obtain⟨s,hs⟩:∃s,os[k].se=s:=⟨_,rfl⟩;rw[hs]at e0 ER;clear hs f2 k2 hfs hcell hc3 hc4 HV CX;unfold maxLen at hc2;go_wp2_with fail
  go_region
  go_wp2_with fail;refine bodyPost_ret (v:=.tuple #[.int .u64 s,.int .i64 x]) (by simp[results,Tryz.results85,go_sem,hst]) rfl ?_;exact⟨by rw[ER.out],(B2.out.setCell (by show w.heap.size≤w.heap.size+3;omega) _).drew⟩
 have ER:Hid (R=(0,0)):=yH (by rw[←HR.out,hfs];rfl);have B2:=yH (B1.out.trans (k2.below (B:=w.heap.size) B1.out.size (fun j hj e=>by omega)));have x0:=f2.x.cell 0;have xl:=f2.x.lt;have fz:=f2.x.frozen 0;have hst:=(f2.x.set 0 (.int .i64 0)).cell 0;simp at x0 hst;clear f2 k2 hfs HV CX;go_wp2_with fail;refine bodyPost_ret (v:=.tuple #[.int .u64 0,.int .i64 0]) (by simp[results,Tryz.results85,go_sem,hst]) rfl ?_;exact⟨by rw[ER.out],B2.out.setCell (by show w.heap.size≤w.heap.size+3;omega) _⟩
end Go.Proofs.YtojbmnbphdcjfaaGreat
