/- Pieces of one proof. -/
import Derived.Test.YtaeocliklpcgmaaGreatP26
import Derived.Deep.MidRow
set_option linter.all false
set_option maxHeartbeats 64000000
set_option maxRecDepth 100000
namespace Go.Proofs.YtaeocliklpcgmaaGreat
open Go.RowKit
theorem aQs(x:Of){c1 c2:Nat}{s b:Int}{w:World}(h1:Blk w c1 #[.int .u8 s] 44)(h2:Blk w c2 #[.int .u8 b] 44):
  Calls Tryz.prog 77 #[.agg #[.int .u64 x.se,.int .u8 x.ow,.int .u8 x.sl,.int .u8 x.bu,.int .i64 x.lf,.int .i64 x.nu,.int .i64 x.de],.pointer (some ⟨c1,0,none⟩),.pointer (some ⟨c2,0,none⟩)] w (yR w (.bool (!aBf s b x))):=by
 have B0:=yH ((Below.refl w.heap.size w).alloc yL (.cells #[.int .u64 x.se,.int .u8 x.ow,.int .u8 x.sl,.int .u8 x.bu,.int .i64 x.lf,.int .i64 x.nu,.int .i64 x.de] 129));have k1:=h1.alloc (.cells #[.int .u64 x.se,.int .u8 x.ow,.int .u8 x.sl,.int .u8 x.bu,.int .i64 x.lf,.int .i64 x.nu,.int .i64 x.de] 129);have k2:=h2.alloc (.cells #[.int .u64 x.se,.int .u8 x.ow,.int .u8 x.sl,.int .u8 x.bu,.int .i64 x.lf,.int .i64 x.nu,.int .i64 x.de] 129);have d0:=k1.cell 0;have e0:=k2.cell 0;simp at d0 e0;clear k1 k2 h1 h2;unfold aBf
 by_cases q1:x.sl=s
 ·have p2:(x.sl != s)=false:=by simpa using q1
  by_cases q2:x.bu=b
  ·have p4:(x.bu != b)=false:=by simpa using q2
   rw[decide_eq_true (And.intro q1 q2)];clear q1 q2;go_enter Tryz.func77,Tryz.ntmps77;go_wp2_with fail;go_ret;exact⟨rfl,B0.out⟩
  have p4:(x.bu != b)=true:=by simpa using q2
  rw[decide_eq_false (fun k=>q2 k.2)];clear q1 q2;go_enter Tryz.func77,Tryz.ntmps77;go_wp2_with fail;go_ret;exact⟨rfl,B0.out⟩
 have p2:(x.sl != s)=true:=by simpa using q1
 rw[decide_eq_false (fun k=>q1 k.1)];clear q1;go_enter Tryz.func77,Tryz.ntmps77;go_wp2_with fail;go_ret;exact⟨rfl,B0.out⟩
def aD9(l:List Of)(s b:Int):Nat:=l.findIdx fun x=>!aBf s b x
theorem posB_le(l:List Of)(s b:Int):aD9 l s b≤l.length:=List.findIdx_le_length
theorem posB_at{l:List Of}{s b:Int}{k:Nat}(hk:k<l.length)(hn:∀x∈l.take k,aBf s b x=true)(hx:aBf s b l[k]=false):aD9 l s b=k:=by
 unfold aD9;rw[List.findIdx_eq hk];refine⟨by simp[hx],fun j hj=>?_⟩;have:=hn l[j] (by rw[List.mem_take_iff_getElem];exact⟨j,by omega,rfl⟩);simp[this]
theorem posB_none{l:List Of}{s b:Int}(hn:∀x∈l,aBf s b x=true):aD9 l s b=l.length:=by
 unfold aD9;rw[List.findIdx_eq_length];intro x hx;simp[hn x hx]
theorem aQt{l:List Of}{s b:Int}{j:Nat}(hj:j<aD9 l s b):aBf s b (l[j]'(yM hj (posB_le l s b)))=true:=by
 have:=List.not_of_lt_findIdx (p:=fun x=>!aBf s b x) (xs:=l) (i:=j) hj;simpa using this
theorem posB_hit{l:List Of}{s b:Int}(h:aD9 l s b<l.length):aBf s b l[aD9 l s b]=false:=by
 have:=List.findIdx_getElem (p:=fun x=>!aBf s b x) (xs:=l) (w:=h);rw[Bool.not_eq_true']at this;exact this
def idxB(l:List Of)(s b:Int):Value:=if aD9 l s b<l.length then .int .i64 (aD9 l s b:Nat)else .int .i64 (-1)
def IdxBAt(w:World)(l:List Of)(s b:Int)(i:Value)(wr:World):Prop:=
 ∃k:Nat,k≤l.length∧i=.int .i64 k∧(∀x∈l.take k,aBf s b x=true)∧Below w.heap.size w wr
theorem pidxB_any{w:World}{base c1 c2:Nat}{l:List Of}{s b:Int}{v:Value}(h:w.ownsRow base 129 7 v l.length (aAa l))(h1:Blk w c1 #[.int .u8 s] 44)(h2:Blk w c2 #[.int .u8 b] 44):
  Calls Tryz.prog 124 #[v,.func (.func 77) #[] #[.pointer (some ⟨c1,0,none⟩),.pointer (some ⟨c2,0,none⟩)]] w (yR w (idxB l s b)):=by
 obtain⟨ao,cap,rfl,hc1,hc2,hc3,hc4⟩:=aAd h;have HC:=yH hc4;have K1:=yH h1;have K2:=yH h2;unfold maxLen at hc2;clear hc3 hc4 h h1 h2;go_enter Tryz.func124,Tryz.ntmps124;go_wp2_with fail
 go_loopw [5,8] (fun _ i wr=>IdxBAt w l s b i wr) (fun _ i _=>l.length - (intOf i).toNat)
 case atStart=>exact⟨0,Nat.zero_le _,rfl,by simp,yZ⟩
 obtain⟨k,hk,rfl,hn,hb⟩:=hrel
 by_cases hkl:k<l.length
 ·obtain⟨g,rfl,hb1,hb2,hcell,_⟩:=HC.out (by omega);obtain⟨e0,e1,e2,e3,e4,e5,e6⟩:=aCn (w:=wr) (fun j hj=>by rw[hb.cell (p:=⟨g,j,none⟩) hb2];exact hcell j hj) hkl;have FA:=yH (fun hx=>posB_at (s:=s) (b:=b) hkl hn hx);have TN:=yH (fun hx=>aEh (q:=fun x=>aBf s b x=true) hkl hn hx);have C1:=yH (aQs l[k] (K1.out.below hb K1.out.lt) (K2.out.below hb K2.out.lt));have HB:=yH hb;clear hcell hn hb;generalize l[k]=x at *
  cases hx:aBf s b x with
  | false=>
   have E:=yH (FA.out hx);rw[hx]at C1;clear FA TN hx;go_wp2_with fail;refine C1.out.mono ?_;rintro e w2 ⟨rfl,b2⟩;have HB2:=yT HB b2;clear b2;go_wp2_with fail;go_ret;refine⟨?_,HB2.out⟩;unfold idxB;rw[E.out,if_pos hkl];rfl
  | true=>
   have E:=yH (TN.out hx);rw[hx]at C1;clear FA TN hx;go_wp2_with fail;refine C1.out.mono ?_;rintro e w2 ⟨rfl,b2⟩;have HB2:=yT HB b2;clear b2;go_wp2_with fail;go_roundw
   case rel=>exact⟨k+1,by omega,by go_num,E.out,HB2.out⟩
   case measure=>simp[intOf];omega
 have E:Hid (aD9 l s b=l.length):=yH (posB_none (by have:=hn;rwa [List.take_of_length_le (by omega)]at this));have HB:=yH hb;clear hn hb;go_wp2_with fail;go_ret;refine⟨?_,HB.out⟩;unfold idxB;rw[E.out,if_neg (by omega)];rfl
theorem aSv:∀(l:List Of) (k:Nat) (x:Of),k<l.length→(aAa l).take (k*7)++x.vals++(aAa l).drop (k*7+7)=aAa (l.set k x):=by
 intro l k x h;have e0:aAa l=aAa (l.take k)++aAa (l.drop k):=by rw[←aAt,List.take_append_drop]
 have e1:aAa l=aAa (l.take (k+1))++aAa (l.drop (k+1)):=by rw[←aAt,List.take_append_drop]
 have h1:(aAa l).take (k*7)=aAa (l.take k):=by rw[e0,List.take_left' (by rw[aAn,List.length_take];omega)]
 have h2:(aAa l).drop (k*7+7)=aAa (l.drop (k+1)):=by rw[e1,List.drop_left' (by rw[aAn,List.length_take];omega)]
 rw[h1,h2,List.set_eq_take_append_cons_drop,if_pos h,aAt,show x::l.drop (k+1)=[x]++l.drop (k+1)from rfl,aAt,aFu,List.append_assoc]
theorem owns_store{w:World}{base g n cap k:Nat}{e:TypeId}{d:List Of}(h:w.ownsRow base e 7 (.slice (some ⟨g,0,none⟩) n cap) n (aAa d))(hd:d.length=n)(hk:k<n)(x:Of):
  (w.setCells g (k*7) x.vals).ownsRow base e 7 (.slice (some ⟨g,0,none⟩) n cap) n (aAa (d.set k x)):=by
 obtain⟨_,hx⟩:=h;rcases hx with⟨hx,_⟩|⟨g',cap',cur,hv,hbase,hb,h1,h2,h3,h4⟩
 ·cases hx
 cases hv
 obtain⟨cur',hb',hc'⟩:=aDt (w:=w) (e:=e) x.vals (k*7) cur hb (by rw[Of.vals_len,h3];omega);refine⟨by rw[aAn,List.length_set,hd],.inr ⟨g,cap,cur',rfl,hbase,hb',h1,h2,?_,?_⟩⟩
 ·rw[←Array.length_toList,hc'];simp only[List.length_append,List.length_take,List.length_drop,Array.length_toList,Of.vals_len,h3];omega
 rw[hc',←aSv d k x (by omega),←h4,Of.vals_len];have hcl:cur.toList.length=cap*7:=by rw[Array.length_toList,h3]
 rw[List.take_take,Nat.min_eq_left (by omega),List.take_append,List.length_append,List.length_take,Of.vals_len,hcl,Nat.min_eq_left (by omega)];rw[List.take_of_length_le (l:=cur.toList.take (k*7)++x.vals) (by rw[List.length_append,List.length_take,Of.vals_len,hcl];omega),List.drop_take]
theorem zero_one(n:Nat):∀u∈(Builtin.zeroCells zOff.cells n).toList,u.oneCell'=true:=by
 intro u hu;unfold Builtin.zeroCells at hu;simp at hu;obtain⟨i,hi,rfl⟩:=hu;have h7:zOff.cells.size=7:=rfl;rw[h7];have h:=Nat.mod_lt i (show 7 > 0 by omega);generalize i%7=m at *
 match m,h with
 | 0,_=>rfl
 | 1,_=>rfl
 | 2,_=>rfl
 | 3,_=>rfl
 | 4,_=>rfl
 | 5,_=>rfl
 | 6,_=>rfl
theorem aOr(n:Nat):(Builtin.zeroCells zOff.cells n).toList.length=n*7:=by
 unfold Builtin.zeroCells;simp;rfl
theorem owns_cut{w:World}{base g n cap i:Nat}{e:TypeId}{d f:List Of}(h:w.ownsRow base e 7 (.slice (some ⟨g,0,none⟩) n cap) n (aAa d))(hd:d.length=n)(hi:i≤n)(hf:d.take i=f)(hfl:f.length=i)(zs:List Value)(hz:zs.length=(n - i)*7):
  (w.setCells g (i*7) zs).ownsRow base e 7 (.slice (some ⟨g,0,none⟩) i cap) i (aAa f):=by
 obtain⟨_,hx⟩:=h;rcases hx with⟨hx,_⟩|⟨g',cap',cur,hv,hbase,hb,h1,h2,h3,h4⟩
 ·cases hx
 cases hv
 obtain⟨cur',hb',hc'⟩:=aDt (w:=w) (e:=e) zs (i*7) cur hb (by rw[hz,h3];omega);refine⟨by rw[aAn,hfl],.inr ⟨g,cap,cur',rfl,hbase,hb',by omega,h2,?_,?_⟩⟩
 ·rw[←Array.length_toList,hc'];simp only[List.length_append,List.length_take,List.length_drop,Array.length_toList,hz,h3];omega
 have hcl:cur.toList.length=cap*7:=by rw[Array.length_toList,h3]
 rw[hc',List.append_assoc,List.take_append_of_le_length (by rw[List.length_take,hcl];omega),List.take_take,Nat.min_self];have e1:cur.toList.take (i*7)=(cur.toList.take (n*7)).take (i*7):=by rw[List.take_take,Nat.min_eq_left (by omega)]
 rw[e1,h4,←hf];have e0:aAa d=aAa (d.take i)++aAa (d.drop i):=by rw[←aAt,List.take_append_drop]
 rw[e0,List.take_left' (by rw[aAn,List.length_take];omega)]
theorem aH2{w:World}{base g n cap o:Nat}{e:TypeId}{xs:List Value}(h:w.ownsRow base e 7 (.slice (some ⟨g,0,none⟩) n cap) n xs)(ho:o<n*7):(w.cell? ⟨g,o,none⟩).isSome=true∧w.frozen? ⟨g,o,none⟩=false:=by
 obtain⟨_,hx⟩:=h;rcases hx with⟨hx,_⟩|⟨g',cap',cur,hv,hbase,hb,h1,h2,h3,h4⟩
 ·cases hx
 cases hv
 refine⟨?_,Blk.frozen (show Blk w g cur e from hb) o⟩;rw[Blk.cell (show Blk w g cur e from hb),Array.getElem?_eq_getElem (by rw[h3];omega)];rfl
theorem owns_there{w:World}{base g n cap k:Nat}{e:TypeId}{xs:List Value}(h:w.ownsRow base e 7 (.slice (some ⟨g,0,none⟩) n cap) n xs)(hk:k<n):w.there g (k*7) 7:=fun j hj=>aH2 h (by omega)
theorem aMf{P:Program}(w:World)(t e:TypeId)(ht:P.underlying t=some (.slice e))(hs:(sizeOf e).run P w=.ok 7 w)(g n cap j:Nat)(h:j<n)(h2:n≤cap):
  (Instr.sliceAt t (.slice (some ⟨g,0,none⟩) n cap) (some (.int .i64 (j:Int))) none none).run P w=.ok (.slice (some ⟨g,j*7,none⟩) (n - j) (cap - j)) w:=by
 have:=aE5 (P:=P) w t e ht hs g n cap j (by omega) h2 (j:Int) rfl;unfold aHf at this;rw[if_neg (by omega)]at this;exact this
def aC3(l:List Of)(s b:Int)(j:Nat):Nat:=((l.take j).filter (aBf s b)).length
theorem aNb(l:List Of)(s b:Int){j:Nat}(h:j<l.length):aC3 l s b (j+1)=aC3 l s b j+(if aBf s b l[j]=true then 1 else 0):=by
 unfold aC3;rw[List.take_succ_eq_append_getElem h,List.filter_append,List.length_append];congr 1
 by_cases q:aBf s b l[j]=true <;> simp[List.filter_cons,q]
theorem keptN_le(l:List Of)(s b:Int)(j:Nat):aC3 l s b j≤j:=by
 unfold aC3;exact Nat.le_trans (List.length_filter_le _ _) (List.length_take_le _ _)
structure aF4(l d:List Of)(s b:Int)(j:Nat):Prop where
 len:d.length=l.length
 lt:aC3 l s b j<j
 low:d.take (aC3 l s b j)=(l.take j).filter (aBf s b)
 high:d.drop j=l.drop j
theorem aF4.start{l:List Of}{s b:Int}(h:aD9 l s b<l.length):aF4 l l s b (aD9 l s b+1)∧aC3 l s b (aD9 l s b+1)=aD9 l s b:=by
 have hall:(l.take (aD9 l s b)).filter (aBf s b)=l.take (aD9 l s b):=by
  rw[List.filter_eq_self];intro x hx;obtain⟨j,hj,rfl⟩:=List.mem_take_iff_getElem.1 hx;exact aQt (by omega)
 have hf:(l.take (aD9 l s b+1)).filter (aBf s b)=l.take (aD9 l s b):=by
  rw[List.take_succ_eq_append_getElem h,List.filter_append,hall];simp[List.filter_cons,posB_hit h]
 have hk:aC3 l s b (aD9 l s b+1)=aD9 l s b:=by
  unfold aC3;rw[hf,List.length_take];omega
 exact⟨⟨rfl,by omega,by rw[hk,hf],rfl⟩,hk⟩
theorem aF4.get{l d:List Of}{s b:Int}{j:Nat}(h:aF4 l d s b j)(hj:j<l.length):d[j]'(by rw[h.len];exact hj)=l[j]:=by
 have h1:d.drop j=l.drop j:=h.high;have h2:(d.drop j)[0]? = (l.drop j)[0]? := by rw[h1]
 rw[List.getElem?_drop,List.getElem?_drop,Nat.add_zero,List.getElem?_eq_getElem (by rw[h.len];exact hj),List.getElem?_eq_getElem hj]at h2;exact Option.some.inj h2
theorem aF4.skip{l d:List Of}{s b:Int}{j:Nat}(h:aF4 l d s b j)(hj:j<l.length)(hq:aBf s b l[j]=false):aF4 l d s b (j+1)∧aC3 l s b (j+1)=aC3 l s b j:=by
 have hk:aC3 l s b (j+1)=aC3 l s b j:=by rw[aNb l s b hj,hq];simp
 refine⟨⟨h.len,by have:=h.lt;omega,?_,?_⟩,hk⟩
 ·rw[hk,h.low,List.take_succ_eq_append_getElem hj,List.filter_append];simp[List.filter_cons,hq]
 rw[←List.drop_drop,h.high,List.drop_drop]
theorem aF4.keep{l d:List Of}{s b:Int}{j:Nat}(h:aF4 l d s b j)(hj:j<l.length)(hq:aBf s b l[j]=true):aF4 l (d.set (aC3 l s b j) l[j]) s b (j+1)∧aC3 l s b (j+1)=aC3 l s b j+1:=by
 have hk:aC3 l s b (j+1)=aC3 l s b j+1:=by rw[aNb l s b hj,hq];simp
 have hlt:=h.lt;refine⟨⟨by rw[List.length_set];exact h.len,by omega,?_,?_⟩,hk⟩
 ·have hl:aC3 l s b j<d.length:=by rw[h.len];omega
  rw[hk,List.take_succ_eq_append_getElem (by rw[List.length_set];exact hl),List.take_set_of_le yL,h.low,List.getElem_set_self,List.take_succ_eq_append_getElem hj,List.filter_append];simp[List.filter_cons,hq]
 rw[List.drop_set_of_lt (by omega),←List.drop_drop,h.high,List.drop_drop]
def DelAt(w:World)(base g cap:Nat)(l:List Of)(s b:Int)(s5 s6:Value)(wr:World):Prop:=
 ∃(j:Nat) (d:List Of),j≤l.length∧s5=.int .i64 (aC3 l s b j:Nat)∧s6=.int .i64 j∧aF4 l d s b j∧wr.ownsRow base 129 7 (.slice (some ⟨g,0,none⟩) l.length cap) l.length (aAa d)∧Keep (·=g) w wr
theorem pdelf_any{w:World}{base c1 c2:Nat}{l:List Of}{s b:Int}{v:Value}(h:w.ownsRow base 129 7 v l.length (aAa l))(hl:l.length≤1000)(h1:Blk w c1 #[.int .u8 s] 44)(h2:Blk w c2 #[.int .u8 b] 44):
  Calls Tryz.prog 75 #[v,.func (.func 77) #[] #[.pointer (some ⟨c1,0,none⟩),.pointer (some ⟨c2,0,none⟩)]] w fun e w'=>∃v',e=.returned v'∧w'.ownsRow base 129 7 v' (l.filter (aBf s b)).length (aAa (l.filter (aBf s b)))∧Keep (fun k=>v.ownBlock=some k) w w'∧v'.ownBlock=v.ownBlock:=by
 have CI:=yH (pidxB_any h h1 h2)
 by_cases hp:aD9 l s b<l.length
 ·rw[show idxB l s b=.int .i64 (aD9 l s b:Nat) by unfold idxB;rw[if_pos hp]]at CI;obtain⟨D0,kp⟩:=aF4.start hp;obtain⟨ao,cap,rfl,hc1,hc2,hc3,hc4⟩:=aAd h;obtain⟨g,rfl,hb1,hb2,_,_⟩:=hc4 (by omega);have hne1:c1≠g:=fun e=>(aAi h h1 (by decide)) g rfl e.symm
  have hne2:c2≠g:=fun e=>(aAi h h2 (by decide)) g rfl e.symm
  have HO:=yH h;have K1:=yH h1;have K2:=yH h2;have HD0:=yH D0;have HKP:=yH kp;have HN:=yH (And.intro hne1 hne2);have e1:((aD9 l s b:Int) == -1)=false:=by simp <;> omega
  unfold maxLen at hc2;generalize hpk:aD9 l s b=k0 at *;clear hc3 hc4 h h1 h2 D0 kp hne1 hne2 hpk;go_enter Tryz.func75,Tryz.ntmps75;go_wp2_with fail;refine CI.out.mono ?_;rintro e w1 ⟨rfl,b1⟩;have HO1:=yH (aAc HO.out b1);have K11:=yB K1 b1;have K21:=yB K2 b1;have HB1:=yH b1;clear b1 CI HO K1 K2;go_wp2_with fail
  go_loopw [5,6] (DelAt w1 base g cap l s b) (fun _ j _=>l.length - (intOf j).toNat)
  case atStart=>exact⟨k0+1,l,by omega,by rw[HKP.out],by go_num,HD0.out,HO1.out,Keep.refl _ _⟩
  obtain⟨j,d,hj,rfl,rfl,hD,hown,hk⟩:=hrel
  by_cases hjl:j<l.length
  ·have hdl:j<d.length:=by rw[hD.len];exact hjl
   have hget:=hD.get hjl;obtain⟨ao',cap',hv,_,_,_,hr⟩:=aAd hown
   cases hv
   obtain⟨g',hg',_,_,hcell,hfr⟩:=hr (by omega)
   cases hg'
   obtain⟨e0,e1,e2,e3,e4,e5,e6⟩:=aCn (w:=wr) (ls:=d) (fun t ht=>hcell t (by rw[←hD.len];exact ht)) hdl;rw[hget]at e0 e1 e2 e3 e4 e5 e6;have HDv:=yH hD;have HW:=yH hown;have HK:=yH hk;have K12:=yH (K11.out.keep hk HN.out.1);have K22:=yH (K21.out.keep hk HN.out.2);have hkl:=keptN_le l s b j;have DS:=yH (fun hq=>hD.skip hjl hq);have DK:=yH (fun hq=>hD.keep hjl hq);clear hget hr hcell hfr hown hk hD hdl;generalize l[j]=x at *;generalize hkn:aC3 l s b j=m at *;clear hkn;have bw:=(Below.refl wr.heap.size wr).alloc yL (.cells #[.int .u64 x.se,.int .u8 x.ow,.int .u8 x.sl,.int .u8 x.bu,.int .i64 x.lf,.int .i64 x.nu,.int .i64 x.de] 129);have CB:=yH (aQs x (K12.out.below bw K12.out.lt) (K22.out.below bw K22.out.lt));have KX:=yH (pAA wr #[.int .u64 x.se,.int .u8 x.ow,.int .u8 x.sl,.int .u8 x.bu,.int .i64 x.lf,.int .i64 x.nu,.int .i64 x.de] 129);have HBW:=yH bw;clear bw
   cases hq:aBf s b x with
   | false=>
    have E:=yH (DS.out hq);rw[hq]at CB;clear DS DK hq;go_wp2_with fail;refine CB.out.mono ?_;rintro e w2 ⟨rfl,b2⟩;have HB2:=yT HBW b2;clear b2;go_wp2_with fail;go_roundw
    case rel=>exact⟨j+1,d,by omega,by rw[E.out.2],by go_num,E.out.1,aAc HW.out HB2.out,HK.out.trans (pAE HB2.out)⟩
    case measure=>simp[intOf];omega
   | true=>
    have E:=yH (DK.out hq);rw[hq]at CB;clear DS DK hq;go_wp2_with fail;refine CB.out.mono ?_;rintro e w2 ⟨rfl,b2⟩;have HB2:=yT HBW b2;have KX2:=KX.out.below b2 KX.out.lt;have d0:=KX2.cell 0;have d1:=KX2.cell 1;have d2:=KX2.cell 2;have d3:=KX2.cell 3;have d4:=KX2.cell 4;have d5:=KX2.cell 5;have d6:=KX2.cell 6;simp at d0 d1 d2 d3 d4 d5 d6;have HW2:=yH (aAc HW.out HB2.out);have HT:=yH (owns_there HW2.out (k:=m) (by omega));obtain⟨W3,hW3⟩:∃W3,W3=w2.setCells g (m*7) [.int .u64 x.se,.int .u8 x.ow,.int .u8 x.sl,.int .u8 x.bu,.int .i64 x.lf,.int .i64 x.nu,.int .i64 x.de]:=⟨_,rfl⟩;have HW3:=yH hW3;have HO3:=yH (show W3.ownsRow base 129 7 (.slice (some ⟨g,0,none⟩) l.length cap) l.length (aAa (d.set m x)) by rw[hW3];exact owns_store HW2.out HDv.out.len (by omega) x);have HK3:=yH (show Keep (·=g) w1 W3 by rw[hW3];exact Keep.setCells _ _ (HK.out.trans (pAE HB2.out)) (.inl rfl));clear b2 KX2 hW3;go_wp2_with (refine wpList_store_mid rfl 129 (.tmp 33) (.tmp 32) rfl g (m*7) #[.int .u64 x.se,.int .u8 x.ow,.int .u8 x.sl,.int .u8 x.bu,.int .i64 x.lf,.int .i64 x.nu,.int .i64 x.de] rfl rfl HT.out (by kernel_rfl) (by simp[Value.oneCell']) ?_;rw[←HW3.out]);go_roundw
    case rel=>exact⟨j+1,d.set m x,by omega,by rw[E.out.2];go_num,by go_num,E.out.1,HO3.out,HK3.out⟩
    case measure=>simp[intOf];omega
  have hje:j=l.length:=by omega
  subst hje;have hkl:=hD.lt;have hlo:=hD.low;have hdn:=hD.len;rw[List.take_of_length_le yL]at hlo;have hfl:(l.filter (aBf s b)).length=aC3 l s b l.length:=by unfold aC3;rw[List.take_of_length_le yL]
  have HK:=yH hk;have HC:=yH (owns_cut hown hdn (by omega) hlo hfl (Builtin.zeroCells zOff.cells (l.length - aC3 l s b l.length)).toList (by rw[aOr]))
  have hcl:∀ty,(Builtin.clear_ #[61] ty #[.slice (some ⟨g,aC3 l s b l.length*7,none⟩) (l.length - aC3 l s b l.length) (cap - aC3 l s b l.length)]).run Tryz.prog wr=.ok (.tuple #[]) (wr.setCells g (aC3 l s b l.length*7) (Builtin.zeroCells zOff.cells (l.length - aC3 l s b l.length)).toList):=fun ty=>
   aGo wr 61 129 ty zOff Tryz.underlying61 (Tryz.zeroValue129) g (aC3 l s b l.length*7) _ _ (by omega) (zero_one _)
    (fun t ht=>(aH2 hown (by rw[aOr]at ht;omega)).1) (fun t ht=>(aH2 hown (by rw[aOr]at ht;omega)).2)
  have hr:=aMf (P:=Tryz.prog) wr 61 129 Tryz.underlying61 (Tryz.sizeOf129 _) g l.length cap (aC3 l s b l.length) hkl (by omega);obtain⟨W3,hW3⟩:∃W3,W3=wr.setCells g (aC3 l s b l.length*7) (Builtin.zeroCells zOff.cells (l.length - aC3 l s b l.length)).toList:=⟨_,rfl⟩;have HK3:=yH (show Keep (·=g) w1 W3 by rw[hW3];exact Keep.setCells _ _ HK.out (.inl rfl));simp only[←hW3]at hcl HC;rw[←hfl]at HC hcl hr hkl ⊢;obtain⟨m,hm⟩:∃m,(l.filter (aBf s b)).length=m:=⟨_,rfl⟩;rw[hm]at HC hcl hr hkl ⊢;have HM:=yH hm;clear hm;have hic:m≤cap:=by omega
  clear hW3 hfl hlo hdn hown hk hD;go_wp2_with fail;refine bodyPost_ret (v:=.slice (some ⟨g,0,none⟩) m cap) (by simp[results,Tryz.results75,go_sem]) rfl ?_;exact⟨_,rfl,by rw[HM.out];exact HC.out,((pAE HB1.out).trans HK3.out).mono (fun k _ (hk:k=g)=>by rw[hk];rfl),rfl⟩
 rw[show idxB l s b=.int .i64 (-1) by unfold idxB;rw[if_neg hp]]at CI
 have hfe:l.filter (aBf s b)=l:=by
  rw[List.filter_eq_self];intro x hx;obtain⟨j,hj,rfl⟩:=List.mem_iff_getElem.1 hx;exact aQt (by have:=posB_le l s b;omega)
 rw[hfe];obtain⟨ao,cap,rfl,_⟩:=aAd h;have HO:=yH h;clear h h1 h2 hp hfe;go_enter Tryz.func75,Tryz.ntmps75;go_wp2_with fail;refine CI.out.mono ?_;rintro e w1 ⟨rfl,b1⟩;have HB1:=yH b1;clear b1 CI;go_wp2_with fail;refine bodyPost_ret (v:=.slice ao l.length cap) (by simp[results,Tryz.results75,go_sem]) rfl ?_;exact⟨_,rfl,aAc HO.out HB1.out,pAE HB1.out,rfl⟩
theorem pbest_of{w:World}{base:Nat}{pv v:Value}{l:List Of}{N:Int}{s b:Int}(hc:∀w',Below w.heap.size w w'→Calls Tryz.prog 65 #[pv] w' fun e w''=>e=.returned v∧w'=w'')(h:w.ownsRow base 129 7 v l.length (aAa l))(hI:BInv l N):
  Calls Tryz.prog 31 #[pv,.int .u8 s,.int .u8 b] w (aFr w 48 7 (aBt l s b).length (aAa (aBt l s b))):=by
 have hlen:=hI.len;have hbw:=((Below.refl w.heap.size w).alloc yL (.cells #[.int .u8 s] 44)).alloc (by simp) (.cells #[.int .u8 b] 44);have HB:=yH hbw;have K1:=yH ((pAA w #[.int .u8 s] 44).alloc (.cells #[.int .u8 b] 44));have K2:=yH (pAC (w.alloc (.cells #[.int .u8 s] 44)) #[.int .u8 b] 44 (g:=w.heap.size+1) (by simp));have C1:=yH (hc _ hbw);have C2:=yH (aM4 (aAc h hbw) (by omega));obtain⟨bp,bs⟩:=bestO_is hI.may hI.rise s b
 have hgood:∀x∈l.filter (aBf s b),x.may∧0≤x.se∧x.se≤18446744073709551615:=fun x hx=>by
  have hx:=(List.mem_filter.1 hx).1;have:=hI.bd x hx;have:=hI.n2;exact⟨hI.may x hx,by omega,by omega⟩
 have hne:(l.filter (aBf s b)).Pairwise fun x y=>x.se≠y.se:=(hI.rise.filter _).imp fun h=>by omega
 have hfl:(l.filter (aBf s b)).length≤1000:=Nat.le_trans (List.length_filter_le _ _) (by omega);have HS:=yH (fun(w:World) (base:Nat) (v:Value) (h:w.ownsRow base 129 7 v (l.filter (aBf s b)).length (aAa (l.filter (aBf s b))))=>sortO_any hgood bp bs hne hfl h);have HM:=yH (show(aBt l s b).length≤1000 by rw[bp.length_eq];exact hfl);clear hbw hc h hI bp bs hgood hne hfl;go_enter Tryz.func31,Tryz.ntmps31;go_wp2_with fail;generalize hWW:(w.alloc (.cells #[.int .u8 s] 44)).alloc (.cells #[.int .u8 b] 44)=W at *;have HWs:=yH (show W.heap.size=w.heap.size+2 by rw[←hWW];simp);clear hWW;refine C1.out.mono ?_;rintro e W ⟨rfl,rfl⟩;go_wp2_with fail;refine C2.out.mono ?_;rintro e w1 ⟨v1,rfl,o1,b1⟩;have CD:=yH (pdelf_any o1 (by omega) (K1.out.below b1 K1.out.lt) (K2.out.below b1 K2.out.lt));have HB1:=yT HB b1;have HO1:=yH o1;clear o1 b1 C2 C1;go_wp2_with fail;refine CD.out.mono ?_;rintro e w2 ⟨v2,rfl,o2,k2,e2⟩;have CS:=yH (HS.out _ _ _ o2);have HE:=yH e2;have hv2:∃ao c,v2=.slice ao (l.filter (aBf s b)).length c:=by obtain⟨ao,c,hv,_⟩:=aAd o2;exact⟨ao,c,hv⟩
 have HB2:=yH (HB1.out.trans (k2.below HB1.out.size (fun k hk e=>by have:=(aAe HO1.out e).1;have:=HWs.out;omega)));have HO2:=yH o2;clear o2 k2 e2 CD;obtain⟨ao,c,rfl⟩:=hv2;go_wp2_with fail;refine CS.out.mono ?_;rintro e w3 ⟨rfl,o3,k3⟩;have CT:=yH (told_any o3 HM.out);have HB3:=yH (HB2.out.trans (k3.below HB2.out.size (fun k hk e=>by have:=(aAe HO2.out e).1;have:=HWs.out;omega)));clear o3 k3 CS;go_wp2_with fail;refine CT.out.mono ?_;rintro e w4 ⟨v',rfl,h1,b4⟩;have H1:=yH h1;have HB4:=yT HB3 b4;clear h1 b4 CT;go_wp2_with fail;refine bodyPost_ret (v:=v') (by simp[results,Tryz.results31,go_sem]) rfl ?_;exact⟨v',rfl,H1.out.base HB3.out.size,HB4.out⟩
theorem pbest_any{w:World}{base g:Nat}{l:List Of}{N:Int}{vl:Value}(h:PB w base g l N vl)(hI:BInv l N)(s b:Int):
  Calls Tryz.prog 31 #[.pointer (some ⟨g,0,none⟩),.int .u8 s,.int .u8 b] w (aFr w 48 7 (aBt l s b).length (aAa (aBt l s b))):=by
 obtain⟨ao,cap,rfl,_⟩:=aAd h.row;exact pbest_of (fun w' k=>ball_any (h.below k).blk) h.row hI
end Go.Proofs.YtaeocliklpcgmaaGreat
namespace Go.Proofs.YtaeocliklpcgmaaGreat
open Go.RowKit
attribute [local go_sem] Oper.semAt_some
theorem aHi{p:Of→Bool}:∀{l:List Of} {k:Nat} (hk:k<l.length),k≤(l.takeWhile p).length→(p l[k]=true→k<(l.takeWhile p).length∧(l.takeWhile p)[k]? = some l[k])∧(p l[k]=false→(l.takeWhile p).length≤k)
 | [],k,hk,_=>absurd hk (by simp)
 | z::l,0,hk,_=>by
  constructor
  ·intro h;have h':p z=true:=h;rw[List.takeWhile_cons,if_pos h'];simp
  ·intro h;have h':p z=false:=h;rw[List.takeWhile_cons,if_neg (by simp[h'])];simp
 | z::l,k+1,hk,h1=>by
  rw[List.takeWhile_cons]at h1 ⊢
  by_cases h:p z=true
  ·rw[if_pos h]at h1 ⊢;have hk':k<l.length:=by simpa using hk
   obtain⟨a,b⟩:=aHi (p:=p) hk' (by simpa using h1);exact⟨fun q=>by obtain⟨a1,a2⟩:=a q;exact⟨by simpa using a1,by simpa using a2⟩,fun q=>by have:=b q;simpa using this⟩
  rw[if_neg h]at h1;simp at h1
theorem aJy(p:Of→Bool):∀l:List Of,(l.takeWhile p).length≤l.length
 | []=>by simp
 | z::l=>by
  rw[List.takeWhile_cons];have:=aJy p l;split
  ·simp only[List.length_cons];omega
  simp
theorem aSw(x:Of)(b:Option Addr)(w:World):
  Calls Tryz.prog 148 #[.agg #[.int .u64 x.se,.int .u8 x.ow,.int .u8 x.sl,.int .u8 x.bu,.int .i64 x.lf,.int .i64 x.nu,.int .i64 x.de],.pointer b] w fun e w'=>e=.returned (.func (.func 189) #[] #[(.pointer (some ⟨w.heap.size,0,none⟩)),(.pointer (some ⟨w.heap.size+1,0,none⟩))])∧w'=(w.alloc (.cells #[.int .u64 x.se,.int .u8 x.ow,.int .u8 x.sl,.int .u8 x.bu,.int .i64 x.lf,.int .i64 x.nu,.int .i64 x.de] 100)).alloc (.cells #[.pointer b] 29):=by
 go_enter Tryz.func148,Tryz.ntmps148;go_wp2;go_ret;exact⟨rfl,rfl⟩
theorem aCl.old{w w':World}{B l base size n:Nat}{e:TypeId}{v:Value}{xs:List Value}(h:aCl w base e size v n xs)(k:aOm B l w w')(hB:B≤base)(hl:l<base):aCl w' base e size v n xs:=by
 obtain⟨h1,h2|⟨g,cs,hv,hg,hb,h3,h4,h5⟩⟩:=h
 ·exact⟨h1,.inl h2⟩
 exact⟨h1,.inr ⟨g,cs,hv,hg,Blk.old hb k (by omega) (by omega),h3,h4,h5⟩⟩
def AgIt(J:Nat→World→Prop)(W0:World)(g:Nat)(nu de:Int)(os:List Of)(m:Nat)(v i:Value)(wr:World):Prop:=
 ∃k:Nat,i=.int .i64 k∧k≤m∧J k wr∧Blk wr g #[.int .i64 de,.int .i64 nu] 46∧aCl wr W0.heap.size 48 7 v os.length (aAa os)∧W0.heap.size≤wr.heap.size
theorem aSx{I:Nat→World→Prop}{b1 b2 base gb:Nat}{l:List Of}{N:Int}{vb:Value}(x:Of)(hx:x.Fits)(hm:mayB x.nu x.de=true)(hJ:BInv l N)
  (hI:∀k W,I k W→PB W base gb l N vb∧Blk W b1 #[.int .u64 x.se,.int .u8 x.ow,.int .u8 x.sl,.int .u8 x.bu,.int .i64 x.lf,.int .i64 x.nu,.int .i64 x.de] 100∧Blk W b2 #[(.pointer (some ⟨gb,0,none⟩))] 29):
  SeqK Tryz.prog 189 #[(.pointer (some ⟨b1,0,none⟩)),(.pointer (some ⟨b2,0,none⟩))] 0 (fun k=>(agO l x.sl x.bu x.nu x.de).length≤k) (fun k vs _=>∃o:Of,(agO l x.sl x.bu x.nu x.de)[k]? = some o∧vs=#[.agg #[.int .u64 o.se,.int .u8 o.ow,.int .u8 o.sl,.int .u8 o.bu,.int .i64 o.lf,.int .i64 o.nu,.int .i64 o.de]]) (fun k k'=>k'=k+1) I:=by
 intro n lb B J Jx hgrow hJI hY W0 h0 hB hlb;obtain⟨hP,k1,k2⟩:=hI 0 W0 (hJI 0 W0 h0);have GR:=yH hgrow;have HY:=yH hY;have J0:=yH h0;have HP:=yH hP;have HB:=yH (And.intro hB hlb);have CI:=yH (fun w=>aLo x.nu x.de w hx.nu hx.de);rw[show alN x.nu x.de=x.nu by unfold alN;rw[if_pos hm],show alD x.nu x.de=x.de by unfold alD;rw[if_pos hm]]at CI;have CC:=yH (fun(o:Of) w (ho:o∈aBt l x.bu x.sl)=>aSf o.nu o.de x.de x.nu w (by have:=aC4 (hJ.may o (aOg hJ ho).1).2.2.2.2.2;unfold In64;omega) (by have:=aC4 (hJ.may o (aOg hJ ho).1).2.2.2.2.2;unfold In64;omega) hx.de hx.nu);have CB:=yH (fun w' (h:PB w' base gb l N vb)=>pbest_any h hJ x.bu x.sl);obtain⟨m,hmm⟩:∃m,(agO l x.sl x.bu x.nu x.de).length=m:=⟨_,rfl⟩;have TW:=yH (fun(k:Nat) (hk:k<(aBt l x.bu x.sl).length) (h:k≤m)=>aHi (p:=fun o:Of=>decide (cmpR o.nu o.de x.de x.nu≤0)) hk (by rw[←hmm]at h;exact h));have TL:=yH (show m≤(aBt l x.bu x.sl).length by rw[←hmm];exact aJy _ _);have AG:=yH (show(aBt l x.bu x.sl).takeWhile (fun o:Of=>decide (cmpR o.nu o.de x.de x.nu≤0))=agO l x.sl x.bu x.nu x.de from rfl);rw[AG.out,hmm]at TW;rw[hmm];obtain⟨ag,hag⟩:∃ag,agO l x.sl x.bu x.nu x.de=ag:=⟨_,rfl⟩;rw[hag]at TW HY;generalize hos:aBt l x.bu x.sl=os at *;have d2:=k1.cell 2;have d3:=k1.cell 3;have d5:=k1.cell 5;have d6:=k1.cell 6;have e0:=k2.cell 0;simp at d2 d3 d5 d6 e0;have K1:=yH k1;have K2:=yH k2;clear hgrow hJI hY hI h0 hP hB hlb hx hm hJ k1 k2 hmm AG hag hos;refine callsIn_of_wp Tryz.func189 rfl trivial ?_ rfl;simp only[Tryz.ntmps189,List.size_toArray,List.length_cons,List.length_nil,Nat.reduceAdd,Nat.reduceSub,Array.replicate_succ,Array.replicate_zero,List.push_toArray,List.append_toArray,List.nil_append,List.cons_append]
 gi_wp2_with fail
 refine⟨trivial,(fun hh=>(by cases hh)),(callsIn_wide.2 (CI.out _)).mono ?_⟩;rintro e w1 ⟨rfl,hb1⟩;have J1:=yH (GR.out 0 W0 w1 J0.out hb1);have bg:=(Below.refl w1.heap.size w1).alloc yL (.cells #[.int .i64 x.de,.int .i64 x.nu] 46);have KG:=yH (pAA w1 #[.int .i64 x.de,.int .i64 x.nu] 46);have J2:=yH (GR.out 0 w1 _ J1.out bg);have bw:=hb1.trans (bg.mono hb1.size);have SZ:=yH (show W0.heap.size≤w1.heap.size∧W0.heap.size≤(w1.alloc (.cells #[.int .i64 x.de,.int .i64 x.nu] 46)).heap.size from⟨hb1.size,bw.size⟩);have K1b:=yB K1 bw;have K2b:=yB K2 bw;have CB2:=yH (CB.out _ (HP.out.below bw));clear hb1 bg bw d2 d3 d5 d6 e0 J0 J1 K1 K2 CB HP CI;have d2:=K1b.out.cell 2;have d3:=K1b.out.cell 3;have e0:=K2b.out.cell 0;simp at d2 d3 e0
 gi_wp2_with fail
 generalize w1.alloc (.cells #[.int .i64 x.de,.int .i64 x.nu] 46)=w2 at *;refine⟨trivial,(fun hh=>(by cases hh)),(callsIn_wide.2 CB2.out).mono ?_⟩;rintro e w3 ⟨v,rfl,hv,hb3⟩;have J3:=yH (GR.out 0 w2 w3 J2.out hb3);have KG3:=yB KG hb3;have RW:=yH (hv.base SZ.out.2);have SZ3:=yH (Nat.le_trans SZ.out.2 hb3.size);obtain⟨ao,cap,rfl,hc1,hc2,_,_⟩:=hv.look;unfold maxLen at hc2;clear hv hb3 d2 d3 e0 J2 KG K1b K2b CB2
 gi_wp2_with fail
 gi_loopw [6,17,19,20,21,22,23,24,25,26,27,28,29,30,31,32] (fun _ i _ _ _ _ _ _ _ _ _ _ _ _ _ _ wr=>AgIt J W0 w1.heap.size x.nu x.de os m (.slice ao os.length cap) i wr) (fun _ i _ _ _ _ _ _ _ _ _ _ _ _ _ _ _=>os.length - (intOf i).toNat)
 case atStart=>exact⟨0,rfl,Nat.zero_le _,J3.out,KG3.out,RW.out,SZ3.out⟩
 obtain⟨k,rfl,hkm,hj,hg,hr,hs⟩:=hrel;have JR:=yH hj;have KR:=yH hg;have RR:=yH hr;have HS:=yH hs
 by_cases hkl:k<os.length
 ·have hki:(k:Int)<(os.length:Int):=by omega
  have hk0:(0:Int)≤(k:Int):=by omega
  obtain⟨_,_,hvv,_,_,_,hcc⟩:=hr.look
  cases hvv
  obtain⟨b,rfl,_,hb,hc,_⟩:=hcc (by omega);obtain⟨e0,e1,e2,e3,e4,e5,e6⟩:=aCn (w:=wr) hc hkl;have T:=yH (TW.out k hkl hkm);have CC1:=yH (fun w=>CC.out os[k] w (List.getElem_mem hkl));have HKL:=yH hkl;clear hj hg hr hs hkm hcc hc;generalize os[k]=o at *;clear hkl;have bo:=(Below.refl wr.heap.size wr).alloc yL (.cells #[.int .u64 o.se,.int .u8 o.ow,.int .u8 o.sl,.int .u8 o.bu,.int .i64 o.lf,.int .i64 o.nu,.int .i64 o.de] 48);have KO:=yH (pAA wr #[.int .u64 o.se,.int .u8 o.ow,.int .u8 o.sl,.int .u8 o.bu,.int .i64 o.lf,.int .i64 o.nu,.int .i64 o.de] 48);have JR4:=yH (GR.out k wr _ JR.out bo);have KR4:=yB KR bo;have RR4:=yH (RR.out.below bo);have HS4:=yH (Nat.le_trans HS.out bo.size);clear bo JR KR RR HS;obtain⟨c,hcv⟩:∃c,cmpR o.nu o.de x.de x.nu=c:=⟨_,rfl⟩;rw[hcv]at T CC1;clear hcv;have g0:=KR4.out.cell 0;have g1:=KR4.out.cell 1;have o0:=KO.out.cell 0;have o1:=KO.out.cell 1;have o2:=KO.out.cell 2;have o3:=KO.out.cell 3;have o4:=KO.out.cell 4;have o5:=KO.out.cell 5;have o6:=KO.out.cell 6;simp at g0 g1 o0 o1 o2 o3 o4 o5 o6
  gi_wp2_with fail
  generalize wr.alloc (.cells #[.int .u64 o.se,.int .u8 o.ow,.int .u8 o.sl,.int .u8 o.bu,.int .i64 o.lf,.int .i64 o.nu,.int .i64 o.de] 48)=w4 at *;refine⟨trivial,(fun hh=>(by cases hh)),(callsIn_wide.2 (CC1.out _)).mono ?_⟩;rintro e w5 ⟨rfl,hb5⟩;have JR5:=yH (GR.out k w4 _ JR4.out hb5);have KR5:=yB KR4 hb5;have RR5:=yH (RR4.out.below hb5);have HS5:=yH (Nat.le_trans HS4.out hb5.size);have KO5:=yB KO hb5;clear hb5 g0 g1 o0 o1 o2 o3 o4 o5 o6 e0 e1 e2 e3 e4 e5 e6 JR4 KR4 RR4 HS4 KO CC1 hb;have o0:=KO5.out.cell 0;have o1:=KO5.out.cell 1;have o2:=KO5.out.cell 2;have o3:=KO5.out.cell 3;have o4:=KO5.out.cell 4;have o5:=KO5.out.cell 5;have o6:=KO5.out.cell 6;simp at o0 o1 o2 o3 o4 o5 o6
  by_cases hle:c≤0
  ·have q1:decide (c > 0)=false:=by simp;omega
   obtain⟨t1,t2⟩:=T.out.1 (by simpa using hle);obtain⟨fn,tmps,assign,body,hy,hR⟩:=HY.out (n - 1) k #[.agg #[.int .u64 o.se,.int .u8 o.ow,.int .u8 o.sl,.int .u8 o.bu,.int .i64 o.lf,.int .i64 o.nu,.int .i64 o.de]] w5 JR5.out ⟨o,t2,rfl⟩;have RY:=yH hR;have HT1:=yH t1;clear hle t1 t2 hR T
   gi_wp2_with fail
   refine⟨(fun hh=>(by cases hh)),RY.out.mono ?_⟩;rintro e W6 ⟨hof,(⟨rfl,k',rfl,hj⟩|⟨rfl,hjx⟩)⟩
   ·have JN:=yH hj;have KN:=yH (Blk.old KR5.out hof (by have:=HB.out;have:=SZ.out;omega) (by have:=HB.out;have:=SZ.out;omega));have RN:=yH (RR5.out.old hof (by have:=HB.out;omega) (by have:=HB.out;omega));have HN:=yH (Nat.le_trans HS5.out hof.size);clear hj hof RY o0 o1 o2 o3 o4 o5 o6 hy
    gi_wp2_with fail
    go_roundw
    case rel=>exact⟨k+1,by go_num,HT1.out,JN.out,KN.out,RN.out,HN.out⟩
    case measure=>simp[intOf];have:=HKL.out;omega
   have HX:=yH hjx;clear hjx hof RY o0 o1 o2 o3 o4 o5 o6 hy
   gi_wp2_with fail
   refine bodyPost_ret (results_none rfl _ _ _) rfl ?_;exact⟨⟨_,rfl⟩,.inr HX.out⟩
  have q1:decide (c > 0)=true:=by simp;omega
  have HE:=yH (T.out.2 (by simpa using hle));clear hle T
  gi_wp2_with fail
  refine⟨fun _ h=>(by cases h),?_⟩
  gi_wp2_with fail
  refine bodyPost_ret (results_none rfl _ _ _) rfl ?_;exact⟨⟨_,rfl⟩,.inl ⟨k,HE.out,JR5.out⟩⟩
 have q1:decide (k<os.length)=false:=by simpa using hkl
 have HE:=yH (show m≤k by have:=TL.out;omega);clear hj hg hr hs hkm hkl
 gi_wp2_with fail
 go_end0;exact⟨⟨_,rfl⟩,.inl ⟨k,HE.out,JR.out⟩⟩
end Go.Proofs.YtaeocliklpcgmaaGreat
namespace Go.Proofs.YtaeocliklpcgmaaGreat
open Go.RowKit
attribute [local go_sem] Oper.semAt_some
structure FsM(w:World)(G M gb base:Nat)(ps:List Int)(ls:List Ln)(l:List Of)(N:Int)(vb:Value)(x:Of)(W:World):Prop where
 below:Below w.heap.size w W
 c:Blk W w.heap.size #[.int .u64 x.se,.int .u8 x.ow,.int .u8 x.sl,.int .u8 x.bu,.int .i64 x.lf,.int .i64 x.nu,.int .i64 x.de] 100
 h:Blk W (w.heap.size+1) #[.pointer (some ⟨G,0,none⟩),.pointer (some ⟨gb,0,none⟩)] 31
 sq:Blk W (w.heap.size+2) #[.int .u64 0] 39
 nn:∃v:Int,Blk W (w.heap.size+3) #[.int .i64 v] 2
 led:LedM W G M ps ls
 book:PB W base gb l N vb
 c4:Blk W (w.heap.size+4) #[.int .u64 x.se,.int .u8 x.ow,.int .u8 x.sl,.int .u8 x.bu,.int .i64 x.lf,.int .i64 x.nu,.int .i64 x.de] 100
 c5:Blk W (w.heap.size+5) #[(.pointer (some ⟨gb,0,none⟩))] 29
 lt:G<w.heap.size∧M<w.heap.size∧∀b,Foot gb vb b→b<w.heap.size
theorem FsM.keep{S:Nat→Prop}{w:World}{G M gb base:Nat}{ps:List Int}{ls:List Ln}{l:List Of}{N:Int}{vb:Value}{x:Of}{W W':World}(h:FsM w G M gb base ps ls l N vb x W)(k:Keep S W W')(hS:∀j,S j→w.heap.size+6≤j):FsM w G M gb base ps ls l N vb x W':=by
 have q:∀j,j<w.heap.size+6→¬S j:=fun j hj hs=>by have:=hS j hs;omega
 obtain⟨v,hv⟩:=h.nn;obtain⟨l1,l2,l3⟩:=h.lt
 exact⟨h.below.trans (k.below h.below.size (fun j hj hs=>q j (by omega) hs)),h.c.keep k (q _ (by omega)),h.h.keep k (q _ (by omega)),h.sq.keep k (q _ (by omega)),⟨v,hv.keep k (q _ (by omega))⟩,
  h.led.keep k (q _ (by omega)) (q _ (by omega)),h.book.keep k (q _ (by have:=l3 gb (.inl rfl);omega)) (fun b hb hs=>q b (by have:=l3 b (.inr hb);omega) hs),h.c4.keep k (q _ (by omega)),h.c5.keep k (q _ (by omega)),h.lt⟩
theorem FsM.setN{w:World}{G M gb base:Nat}{ps:List Int}{ls:List Ln}{l:List Of}{N:Int}{vb:Value}{x:Of}{W:World}(h:FsM w G M gb base ps ls l N vb x W)(v:Int):FsM w G M gb base ps ls l N vb x (W.setCell ⟨w.heap.size+3,0,none⟩ (.int .i64 v)):=by
 have k:Keep (fun j=>j=w.heap.size+3) W (W.setCell ⟨w.heap.size+3,0,none⟩ (.int .i64 v)):=Keep.setCell (S:=fun j=>j=w.heap.size+3) (Keep.refl _ _) (p:=⟨w.heap.size+3,0,none⟩) (.inl rfl) _;obtain⟨u,hu⟩:=h.nn;obtain⟨l1,l2,l3⟩:=h.lt
 exact⟨h.below.trans (k.below h.below.size (fun j hj hs=>by omega)),h.c.keep k (by omega),h.h.keep k (by omega),h.sq.keep k (by omega),⟨v,hu.set 0 _⟩,
  h.led.keep k (by omega) (by omega),h.book.keep k (by have:=l3 gb (.inl rfl);omega) (fun b hb hs=>by have:=l3 b (.inr hb);omega),h.c4.keep k (by omega),h.c5.keep k (by omega),h.lt⟩
def FsI(w:World)(G M gb base:Nat)(ps:List Int)(ls:List Ln)(l:List Of)(N:Int)(vb:Value)(x:Of)(k:Nat)(W:World):Prop:=
 FsM w G M gb base ps ls l N vb x W∧aBc ps ls l x.ow x.ow 1099511627776 x.lf (agO l x.sl x.bu x.nu x.de)=aBc ps ls l x.ow x.ow 1099511627776 x.lf ((agO l x.sl x.bu x.nu x.de).drop k)
def FsX(w:World)(ps:List Int)(ls:List Ln)(l:List Of)(x:Of)(c:Code)(W:World):Prop:=
 c=.ret∧∃s n:Int,Below w.heap.size w W∧Blk W (w.heap.size+2) #[.int .u64 s] 39∧Blk W (w.heap.size+3) #[.int .i64 n] 2∧aBc ps ls l x.ow x.ow 1099511627776 x.lf (agO l x.sl x.bu x.nu x.de)=some (s,n)
theorem fits_FsI{w:World}{G M gb base:Nat}{ps:List Int}{ls:List Ln}{l:List Of}{N:Int}{vb:Value}{x:Of}{B:Nat}(hB:w.heap.size+6≤B)(k:Nat):Fits B (FsI w G M gb base ps ls l N vb x k):=
 ⟨fun W W' h q=>⟨h.1.keep (pAE (S:=fun _=>False) q) (fun j hj=>hj.elim),h.2⟩,fun W lo o o' h hl hg ho=>⟨h.1.keep (aLa W o') (fun j hj=>by omega),h.2⟩⟩
theorem fits_FsX{w:World}{ps:List Int}{ls:List Ln}{l:List Of}{x:Of}{B:Nat}(hB:w.heap.size+6≤B)(c:Code):Fits B (FsX w ps ls l x c):=
 ⟨fun W W' ⟨h1,s,n,h2,h3,h4,h5⟩ q=>⟨h1,s,n,h2.trans (q.mono h2.size),h3.below q h3.lt,h4.below q h4.lt,h5⟩,
  fun W lo o o' ⟨h1,s,n,h2,h3,h4,h5⟩ hl hg ho=>⟨h1,s,n,h2.trans (aFd W o' (by omega)),h3.turn hg ho o',h4.turn hg ho o',h5⟩⟩
theorem fs_body(HMy:aE2){w:World}{G M gb base:Nat}{ps:List Int}{ls:List Ln}{l:List Of}{N:Int}{vb:Value}{x:Of}{W:World}{b B m0 lo k:Nat}{o:Of}{c0 c1 c7 c8 c9 c10 c11 c12 c13 c14 c15 c16 c17 c18 c19 c20 c21 c22 c23 c24 c25 c26:Value}
  (hI:LInv ps ls)(hJ:BInv l N)(hx:x.Fits)(hM:FsI w G M gb base ps ls l N vb x k W)(ho:(agO l x.sl x.bu x.nu x.de)[k]? = some o)(hb:Blk W b #[.int .u64 o.se,.int .u8 o.ow,.int .u8 o.sl,.int .u8 o.bu,.int .i64 o.lf,.int .i64 o.nu,.int .i64 o.de] 48)(hB:w.heap.size+6≤B):
  Code.wpIn (Fence.wide.inRound lo) m0 Tryz.prog (((Tryz.f103.body).bind aDp).getD .skip) (aQo B (FsI w G M gb base ps ls l N vb x) (FsX w ps ls l x) (fun k k'=>k'=k+1) k W) ⟨#[c0,c1,(.pointer (some ⟨w.heap.size,0,none⟩)),(.pointer (some ⟨w.heap.size+1,0,none⟩)),(.pointer (some ⟨w.heap.size+2,0,none⟩)),(.pointer (some ⟨w.heap.size+3,0,none⟩)),(.pointer (some ⟨b,0,none⟩)),c7,c8,c9,c10,c11,c12,c13,c14,c15,c16,c17,c18,c19,c20,c21,c22,c23,c24,c25,c26],[]⟩ W:=by
 conv=>arg 4;whnf
 have hk:=(List.getElem?_eq_some_iff.1 ho).1;have hok:(agO l x.sl x.bu x.nu x.de)[k]=o:=(List.getElem?_eq_some_iff.1 ho).2;have hmem:o∈agO l x.sl x.bu x.nu x.de:=by rw[←hok];exact List.getElem_mem hk
 have hse:=hJ.bd o (mem_ag hJ hmem).1;have hn2:=hJ.n2;have CM:=yH (pmayS_any HMy hM.1.led hI hM.1.book hJ o.se x.ow x.ow 1099511627776 x.lf (by omega) hx.ow hx.ow (by unfold In64;decide) hx.lf)
 have HD:Hid (aBc ps ls l x.ow x.ow 1099511627776 x.lf (agO l x.sl x.bu x.nu x.de)=if 0<mayS ps ls l x.ow x.ow 1099511627776 x.lf o.se then some (o.se,mayS ps ls l x.ow x.ow 1099511627776 x.lf o.se)else aBc ps ls l x.ow x.ow 1099511627776 x.lf ((agO l x.sl x.bu x.nu x.de).drop (k+1))):=yH (by
  rw[hM.2,List.drop_eq_getElem_cons hk,hok];rfl)
 obtain⟨m,hm⟩:∃m,mayS ps ls l x.ow x.ow 1099511627776 x.lf o.se=m:=⟨_,rfl⟩;rw[hm]at CM HD;have HMM:=yH hM.1;obtain⟨v0,hv0⟩:=hM.1.nn;have KN:=yH hv0;have KB:=yH hb;have HBB:=yH hB;have d1:=hM.1.c.cell 1;have d4:=hM.1.c.cell 4;have h0:=hM.1.h.cell 0;have h1:=hM.1.h.cell 1;have o0:=hb.cell 0;simp at d1 d4 h0 h1 o0;clear hk hok hmem hse hn2 hm hI hJ hx hM ho hb hv0 hB HMy
 gi_wp2_with fail
 refine⟨trivial,(fun hh=>(by cases hh)),(CallsIn.inRound lo (callsIn_wide.2 CM.out)).mono ?_⟩;rintro e W1 ⟨rfl,b1⟩;have H1:=yH (HMM.out.keep (pAE (S:=fun _=>False) b1) (fun j hj=>hj.elim));have KN1:=yB KN b1;have KB1:=yB KB b1;have O1:=yH (pAP (B:=B) (pAE (S:=fun _=>False) b1) (fun _ _ h=>h));clear b1 d1 d4 h0 h1 o0 CM HMM KN KB;have n0:=KN1.out.cell 0;have fz:=KN1.out.frozen 0;have KN2:=yH (KN1.out.set 0 (.int .i64 m));have KB2:=yH (KB1.out.setOther (a:=⟨w.heap.size+3,0,none⟩) (show ¬b=w.heap.size+3 from fun e=>by have h1:=KB1.out;have h2:=KN1.out;subst e;exact absurd rfl (aFn h1 h2 (by decide))) (.int .i64 m));have H2:=yH (H1.out.setN m)
 have O2:Hid (aJx B W (W1.setCell ⟨w.heap.size+3,0,none⟩ (.int .i64 m))):=yH ⟨by simpa using O1.out.size,fun j hj hs=>by
  rw[Below.heap_setCell _ _ _ _ (by show ¬j=w.heap.size+3;have:=HBB.out;omega)];exact O1.out.same j hj hs⟩
 simp at n0;clear H1 KB1 O1;have kb:=KB2.out.cell 0;have s0:=H2.out.sq.cell 0;have sf:=H2.out.sq.frozen 0;have n2:=KN2.out.cell 0;have n2f:=KN2.out.frozen 0;simp at kb s0 n2
 by_cases hq:0<m
 ·have q1:decide (m > 0)=true:=by simpa using hq
  rw[if_pos hq]at HD;clear hq
  gi_wp2_with fail
  generalize W1.setCell ⟨w.heap.size+3,0,none⟩ (.int .i64 m)=W2 at *;clear n0 fz q1 KN1
  have END:Hid (aJx B W ((W2.setCell ⟨w.heap.size+2,0,none⟩ (.int .u64 o.se)).setCell ⟨w.heap.size+3,0,none⟩ (.int .i64 m)).drew∧FsX w ps ls l x .ret ((W2.setCell ⟨w.heap.size+2,0,none⟩ (.int .u64 o.se)).setCell ⟨w.heap.size+3,0,none⟩ (.int .i64 m)).drew):=yH (by
   have k:Keep (fun j=>j=w.heap.size+2∨j=w.heap.size+3) W2 ((W2.setCell ⟨w.heap.size+2,0,none⟩ (.int .u64 o.se)).setCell ⟨w.heap.size+3,0,none⟩ (.int .i64 m)).drew:=
    ((Keep.setCell (S:=fun j=>j=w.heap.size+2∨j=w.heap.size+3) (Keep.refl _ _) (p:=⟨w.heap.size+2,0,none⟩) (.inl (.inl rfl)) _).setCell (p:=⟨w.heap.size+3,0,none⟩) (.inl (.inr rfl)) _).drew
   refine⟨⟨Nat.le_trans O2.out.size k.size,fun j hj hs=>?_⟩,rfl,o.se,m,H2.out.below.trans (k.below H2.out.below.size (fun j hj hs=>by omega)),?_,?_,HD.out⟩
   ·rw[k.block j (yM hs O2.out.size) (by have:=HBB.out;omega)];exact O2.out.same j hj hs
   ·exact(H2.out.sq.set 0 _).setOther (a:=⟨w.heap.size+3,0,none⟩) (show ¬w.heap.size+2=w.heap.size+3 by omega) _
   exact(KN2.out.setOther (a:=⟨w.heap.size+2,0,none⟩) (show ¬w.heap.size+3=w.heap.size+2 by omega) _).set 0 _)
  clear KN2 KB2 H2 O2
  gi_region
  all_goals
   gi_wp2_with fail
   exact END.out
 have q1:decide (m > 0)=false:=by simpa using hq
 rw[if_neg hq]at HD;clear hq
 gi_wp2_with fail
 exact⟨O2.out,k+1,rfl,H2.out,HD.out⟩
theorem cfirst_any(HMy:aE2){w:World}{G M gb base:Nat}{ps:List Int}{ls:List Ln}{l:List Of}{N:Int}{vb:Value}{x:Of}(hL:LedM w G M ps ls)(hI:LInv ps ls)(hP:PB w base gb l N vb)(hJ:BInv l N)(hx:x.Fits)(hm:mayB x.nu x.de=true):
  Calls Tryz.prog 103 #[.agg #[.int .u64 x.se,.int .u8 x.ow,.int .u8 x.sl,.int .u8 x.bu,.int .i64 x.lf,.int .i64 x.nu,.int .i64 x.de],.agg #[.pointer (some ⟨G,0,none⟩),.pointer (some ⟨gb,0,none⟩)]] w (yR w (.tuple #[.int .u64 ((aBc ps ls l x.ow x.ow 1099511627776 x.lf (agO l x.sl x.bu x.nu x.de)).getD (0,0)).1,.int .i64 ((aBc ps ls l x.ow x.ow 1099511627776 x.lf (agO l x.sl x.bu x.nu x.de)).getD (0,0)).2])):=by
 have LT:=And.intro hL.blk.lt (And.intro hL.map.lt (fun b (hb:Foot gb vb b)=>(hP.lt hb).2));have b1:=(Below.refl w.heap.size w).alloc yL (.cells #[.int .u64 x.se,.int .u8 x.ow,.int .u8 x.sl,.int .u8 x.bu,.int .i64 x.lf,.int .i64 x.nu,.int .i64 x.de] 100);have b2:=b1.alloc b1.size (.cells #[.pointer (some ⟨G,0,none⟩),.pointer (some ⟨gb,0,none⟩)] 31);have b3:=b2.alloc b2.size (.cells #[.int .u64 0] 39);have b4:=b3.alloc b3.size (.cells #[.int .i64 0] 2)
 have hM:FsM w G M gb base ps ls l N vb x (((((w.alloc (.cells #[.int .u64 x.se,.int .u8 x.ow,.int .u8 x.sl,.int .u8 x.bu,.int .i64 x.lf,.int .i64 x.nu,.int .i64 x.de] 100)).alloc (.cells #[.pointer (some ⟨G,0,none⟩),.pointer (some ⟨gb,0,none⟩)] 31)).alloc (.cells #[.int .u64 0] 39)).alloc (.cells #[.int .i64 0] 2)).alloc (.cells #[.int .u64 x.se,.int .u8 x.ow,.int .u8 x.sl,.int .u8 x.bu,.int .i64 x.lf,.int .i64 x.nu,.int .i64 x.de] 100) |>.alloc (.cells #[(.pointer (some ⟨gb,0,none⟩))] 29)):=by
  have c1:=(Below.refl ((((w.alloc (.cells #[.int .u64 x.se,.int .u8 x.ow,.int .u8 x.sl,.int .u8 x.bu,.int .i64 x.lf,.int .i64 x.nu,.int .i64 x.de] 100)).alloc (.cells #[.pointer (some ⟨G,0,none⟩),.pointer (some ⟨gb,0,none⟩)] 31)).alloc (.cells #[.int .u64 0] 39)).alloc (.cells #[.int .i64 0] 2)).heap.size ((((w.alloc (.cells #[.int .u64 x.se,.int .u8 x.ow,.int .u8 x.sl,.int .u8 x.bu,.int .i64 x.lf,.int .i64 x.nu,.int .i64 x.de] 100)).alloc (.cells #[.pointer (some ⟨G,0,none⟩),.pointer (some ⟨gb,0,none⟩)] 31)).alloc (.cells #[.int .u64 0] 39)).alloc (.cells #[.int .i64 0] 2))).alloc yL (.cells #[.int .u64 x.se,.int .u8 x.ow,.int .u8 x.sl,.int .u8 x.bu,.int .i64 x.lf,.int .i64 x.nu,.int .i64 x.de] 100);have c2:=c1.alloc c1.size (.cells #[(.pointer (some ⟨gb,0,none⟩))] 29);have b6:=b4.trans (c2.mono b4.size)
  exact⟨b6,(((pAA w #[.int .u64 x.se,.int .u8 x.ow,.int .u8 x.sl,.int .u8 x.bu,.int .i64 x.lf,.int .i64 x.nu,.int .i64 x.de] 100).alloc _).alloc _).alloc _ |>.below c2 (by simp;omega),((pAC (w.alloc (.cells #[.int .u64 x.se,.int .u8 x.ow,.int .u8 x.sl,.int .u8 x.bu,.int .i64 x.lf,.int .i64 x.nu,.int .i64 x.de] 100)) #[.pointer (some ⟨G,0,none⟩),.pointer (some ⟨gb,0,none⟩)] 31 (g:=w.heap.size+1) (by simp)).alloc _).alloc _ |>.below c2 (by simp),((pAC ((w.alloc (.cells #[.int .u64 x.se,.int .u8 x.ow,.int .u8 x.sl,.int .u8 x.bu,.int .i64 x.lf,.int .i64 x.nu,.int .i64 x.de] 100)).alloc (.cells #[.pointer (some ⟨G,0,none⟩),.pointer (some ⟨gb,0,none⟩)] 31)) #[.int .u64 0] 39 (g:=w.heap.size+2) (by simp)).alloc _).below c2 (by simp),
   ⟨0,(pAC (((w.alloc (.cells #[.int .u64 x.se,.int .u8 x.ow,.int .u8 x.sl,.int .u8 x.bu,.int .i64 x.lf,.int .i64 x.nu,.int .i64 x.de] 100)).alloc (.cells #[.pointer (some ⟨G,0,none⟩),.pointer (some ⟨gb,0,none⟩)] 31)).alloc (.cells #[.int .u64 0] 39)) #[.int .i64 0] 2 (g:=w.heap.size+3) (by simp)).below c2 (by simp)⟩,hL.below b6,hP.below b6,(pAC ((((w.alloc (.cells #[.int .u64 x.se,.int .u8 x.ow,.int .u8 x.sl,.int .u8 x.bu,.int .i64 x.lf,.int .i64 x.nu,.int .i64 x.de] 100)).alloc (.cells #[.pointer (some ⟨G,0,none⟩),.pointer (some ⟨gb,0,none⟩)] 31)).alloc (.cells #[.int .u64 0] 39)).alloc (.cells #[.int .i64 0] 2)) #[.int .u64 x.se,.int .u8 x.ow,.int .u8 x.sl,.int .u8 x.bu,.int .i64 x.lf,.int .i64 x.nu,.int .i64 x.de] 100 (g:=w.heap.size+4) (by simp)).alloc _,pAC _ _ _ (by simp),LT⟩
 have KC:=yH ((((pAA w #[.int .u64 x.se,.int .u8 x.ow,.int .u8 x.sl,.int .u8 x.bu,.int .i64 x.lf,.int .i64 x.nu,.int .i64 x.de] 100).alloc (.cells #[.pointer (some ⟨G,0,none⟩),.pointer (some ⟨gb,0,none⟩)] 31)).alloc (.cells #[.int .u64 0] 39)).alloc (.cells #[.int .i64 0] 2));have KH:=yH (((pAC (w.alloc (.cells #[.int .u64 x.se,.int .u8 x.ow,.int .u8 x.sl,.int .u8 x.bu,.int .i64 x.lf,.int .i64 x.nu,.int .i64 x.de] 100)) #[.pointer (some ⟨G,0,none⟩),.pointer (some ⟨gb,0,none⟩)] 31 (g:=w.heap.size+1) (by simp)).alloc (.cells #[.int .u64 0] 39)).alloc (.cells #[.int .i64 0] 2));have HSZ:Hid (((((w.alloc (.cells #[.int .u64 x.se,.int .u8 x.ow,.int .u8 x.sl,.int .u8 x.bu,.int .i64 x.lf,.int .i64 x.nu,.int .i64 x.de] 100)).alloc (.cells #[.pointer (some ⟨G,0,none⟩),.pointer (some ⟨gb,0,none⟩)] 31)).alloc (.cells #[.int .u64 0] 39)).alloc (.cells #[.int .i64 0] 2)).heap.size=w.heap.size+4):=yH (by simp);have HM:=yH hM;have II:=yH hI;have JJ:=yH hJ;have HX:=yH hx;have HMB:=yH hm;obtain⟨R,hR⟩:∃R,(aBc ps ls l x.ow x.ow 1099511627776 x.lf (agO l x.sl x.bu x.nu x.de)).getD (0,0)=R:=⟨_,rfl⟩;have HR:=yH hR;rw[hR];clear LT b1 b2 b3 b4 hM hL hI hP hJ hx hm hR;generalize hW:((((w.alloc (.cells #[.int .u64 x.se,.int .u8 x.ow,.int .u8 x.sl,.int .u8 x.bu,.int .i64 x.lf,.int .i64 x.nu,.int .i64 x.de] 100)).alloc (.cells #[.pointer (some ⟨G,0,none⟩),.pointer (some ⟨gb,0,none⟩)] 31)).alloc (.cells #[.int .u64 0] 39)).alloc (.cells #[.int .i64 0] 2))=W at *;have HW:=yH hW;clear hW;have d0:=KC.out.cell 0;have d1:=KC.out.cell 1;have d2:=KC.out.cell 2;have d3:=KC.out.cell 3;have d4:=KC.out.cell 4;have d5:=KC.out.cell 5;have d6:=KC.out.cell 6;have h0:=KH.out.cell 0;have h1:=KH.out.cell 1;simp at d0 d1 d2 d3 d4 d5 d6 h0 h1;refine(callsIn_wide (n:=0)).1 ?_;refine callsIn_of_wp_marks Tryz.func103 rfl trivial ?_ rfl;refine wpIn_wide.2 ?_;simp only[Tryz.ntmps103,List.size_toArray,List.length_cons,List.length_nil,Nat.reduceAdd,Nat.reduceSub,Array.replicate_succ,Array.replicate_zero,List.push_toArray,List.append_toArray,List.nil_append,List.cons_append]
 go_upto_region 1 with fail
 rw[HW.out];go_wp2_with fail;refine(aSw x _ _).mono ?_;rintro e w6 ⟨rfl,rfl⟩;rw[HSZ.out];clear d0 d1 d2 d3 d4 d5 d6 h0 h1 KC KH;have X6:Hid (((W.alloc (.cells #[.int .u64 x.se,.int .u8 x.ow,.int .u8 x.sl,.int .u8 x.bu,.int .i64 x.lf,.int .i64 x.nu,.int .i64 x.de] 100)).alloc (.cells #[(.pointer (some ⟨gb,0,none⟩))] 29)).heap.size=w.heap.size+6):=yH (by have:=HSZ.out;simp;omega);go_wp2_with fail;generalize hX:(W.alloc (.cells #[.int .u64 x.se,.int .u8 x.ow,.int .u8 x.sl,.int .u8 x.bu,.int .i64 x.lf,.int .i64 x.nu,.int .i64 x.de] 100)).alloc (.cells #[(.pointer (some ⟨gb,0,none⟩))] 29)=X at *;clear hX
 refine wp_roundsK (gf:=189) (lb:=#[(.pointer (some ⟨w.heap.size+4,0,none⟩)),(.pointer (some ⟨w.heap.size+5,0,none⟩))]) rfl (enters_of Tryz.func189 (by kernel_rfl) rfl)
  (FsI w G M gb base ps ls l N vb x) (fun k vs _=>∃o:Of,(agO l x.sl x.bu x.nu x.de)[k]? = some o∧vs=#[.agg #[.int .u64 o.se,.int .u8 o.ow,.int .u8 o.sl,.int .u8 o.bu,.int .i64 o.lf,.int .i64 o.nu,.int .i64 o.de]]) (FsX w ps ls l x) (fun k=>(agO l x.sl x.bu x.nu x.de).length≤k) (fun k k'=>k'=k+1)
  (fun k vs a' W'=>∃(o:Of) (b:Nat),(agO l x.sl x.bu x.nu x.de)[k]? = some o∧Blk W' b #[.int .u64 o.se,.int .u8 o.ow,.int .u8 o.sl,.int .u8 o.bu,.int .i64 o.lf,.int .i64 o.nu,.int .i64 o.de] 48∧a'=⟨#[.agg #[.int .u64 x.se,.int .u8 x.ow,.int .u8 x.sl,.int .u8 x.bu,.int .i64 x.lf,.int .i64 x.nu,.int .i64 x.de],.agg #[.pointer (some ⟨G,0,none⟩),.pointer (some ⟨gb,0,none⟩)],(.pointer (some ⟨w.heap.size,0,none⟩)),(.pointer (some ⟨w.heap.size+1,0,none⟩)),(.pointer (some ⟨w.heap.size+2,0,none⟩)),(.pointer (some ⟨w.heap.size+3,0,none⟩)),(.pointer (some ⟨b,0,none⟩)),.agg #[.int .u64 x.se,.int .u8 x.ow,.int .u8 x.sl,.int .u8 x.bu,.int .i64 x.lf,.int .i64 x.nu,.int .i64 x.de],(.pointer (some ⟨w.heap.size+1,1,none⟩)),(.pointer (some ⟨gb,0,none⟩)),.func (.func 189) #[] #[(.pointer (some ⟨w.heap.size+4,0,none⟩)),(.pointer (some ⟨w.heap.size+5,0,none⟩))],.agg #[.int .u64 o.se,.int .u8 o.ow,.int .u8 o.sl,.int .u8 o.bu,.int .i64 o.lf,.int .i64 o.nu,.int .i64 o.de],undef,undef,undef,undef,undef,undef,undef,undef,undef,undef,undef,undef,undef,undef,undef],[]⟩)
  (fun k=>fits_FsI (by rw[X6.out];omega) k) (fun c=>fits_FsX (by rw[X6.out];omega) c)
  (fun k vs a=>⟨fun W1 W2 ⟨o,b,h1,h2,h3⟩ q=>⟨o,b,h1,h2.below q h2.lt,h3⟩,fun W1 lo ob ob' ⟨o,b,h1,h2,h3⟩ _ hg ho=>⟨o,b,h1,h2.turn hg ho ob',h3⟩⟩)
  (fun k vs W' ⟨o,_,h⟩=>by rw[h];rfl) 0
  (aSx x HX.out HMB.out JJ.out (fun k W' h=>⟨h.1.book,h.1.c4,h.1.c5⟩)) ⟨HM.out,by rw[List.drop_zero]⟩ ?assign ?body ?done ?stop
 case assign=>
  rintro m lo k vs W' K _ ⟨o,ho,rfl⟩ hK
  gi_wp2_with fail
  exact hK _ _ (yZ.alloc yL _) ⟨o,_,ho,pAA _ _ _,rfl⟩
 case body=>
  rintro m0 lo k vs a' W' hW' hM ⟨o,b,ho,hb,rfl⟩;exact fs_body HMy II.out JJ.out HX.out hM ho hb (by rw[X6.out];omega)
 case done=>
  intro D k W' hD hS hM hK;obtain rfl:(0,0)=R:=by rw[←HR.out,hM.2,List.drop_eq_nil_of_le hS];rfl
  obtain⟨v,hv⟩:=hM.1.nn;have s0:=hM.1.sq.cell 0;have sf:=hM.1.sq.frozen 0;have n0:=hv.cell 0;have nf:=hv.frozen 0;simp at s0 n0;have DD:=yH (show w.heap.size+6≤D by have:=X6.out;omega);have HMM:=yH hM.1;have KN:=yH hv;have DK:=yH hK;clear hD hS hM hK hv;go_wp2_with fail;obtain⟨W9,h9⟩:∃W9,W9=(W'.setCell ⟨w.heap.size+2,0,none⟩ (.int .u64 0)).setCell ⟨w.heap.size+3,0,none⟩ (.int .i64 0):=⟨_,rfl⟩
  have k:Keep (fun j=>j=w.heap.size+2∨j=w.heap.size+3) W' W9:=by
   rw[h9];exact(Keep.setCell (S:=fun j=>j=w.heap.size+2∨j=w.heap.size+3) (Keep.refl _ _) (p:=⟨w.heap.size+2,0,none⟩) (.inl (.inl rfl)) _).setCell (p:=⟨w.heap.size+3,0,none⟩) (.inl (.inr rfl)) _
  have e1:W9.heap[D]? = some (.deferred (some [])):=(k.block D (Array.getElem?_eq_some_iff.1 DK.out).1 (by have:=DD.out;omega)).trans DK.out
  have e2:(W9.putObj D (.deferred none)).cell? ⟨w.heap.size+2,0,none⟩=some (.int .u64 0):=by
   rw[World.cell?_of_block (w:=W9) (World.putObj_heap_other (by show ¬w.heap.size+2=D;have:=DD.out;omega)),h9];have:=((HMM.out.sq.set 0 (.int .u64 0)).setOther (a:=⟨w.heap.size+3,0,none⟩) (show ¬w.heap.size+2=w.heap.size+3 by omega) (.int .i64 0)).cell 0;simpa using this
  have e3:(W9.putObj D (.deferred none)).cell? ⟨w.heap.size+3,0,none⟩=some (.int .i64 0):=by
   rw[World.cell?_of_block (w:=W9) (World.putObj_heap_other (by show ¬w.heap.size+3=D;have:=DD.out;omega)),h9];have:=((KN.out.setOther (a:=⟨w.heap.size+2,0,none⟩) (show ¬w.heap.size+3=w.heap.size+2 by omega) (.int .u64 0)).set 0 (.int .i64 0)).cell 0;simpa using this
  have e4:Below w.heap.size w (W9.putObj D (.deferred none)):=(HMM.out.below.trans (k.below HMM.out.below.size (fun j hj hs=>by omega))).trans (aFd _ _ (by have:=DD.out;omega));rw[←h9];refine⟨by simp,.inl ⟨_,_,rfl,run_takeDeferred e1,?_⟩⟩;exact⟨_,by simp[results,Tryz.results103,go_sem,e2,e3],rfl,e4⟩
 rintro D c W' hD ⟨rfl,s,n,hB,hs,hn,hf⟩ hK;obtain rfl:(s,n)=R:=by rw[←HR.out,hf];rfl
 have DD:=yH (show w.heap.size+6≤D by have:=X6.out;omega);have DK:=yH hK;have HB:=yH hB;have KS:=yH hs;have KN:=yH hn;clear hD hK hB hs hn hf;go_wp2_with fail
 have e2:(W'.putObj D (.deferred none)).cell? ⟨w.heap.size+2,0,none⟩=some (.int .u64 s):=by
  rw[World.cell?_of_block (w:=W') (World.putObj_heap_other (by show ¬w.heap.size+2=D;have:=DD.out;omega))];have:=KS.out.cell 0;simpa using this
 have e3:(W'.putObj D (.deferred none)).cell? ⟨w.heap.size+3,0,none⟩=some (.int .i64 n):=by
  rw[World.cell?_of_block (w:=W') (World.putObj_heap_other (by show ¬w.heap.size+3=D;have:=DD.out;omega))];have:=KN.out.cell 0;simpa using this
 have e4:Below w.heap.size w (W'.putObj D (.deferred none)):=HB.out.trans (aFd _ _ (by have:=DD.out;omega));refine⟨by simp,.inl ⟨_,_,rfl,run_takeDeferred DK.out,?_⟩⟩;exact⟨_,by simp[results,Tryz.results103,go_sem,e2,e3],rfl,e4⟩
end Go.Proofs.YtaeocliklpcgmaaGreat
namespace Go.Proofs.YtaeocliklpcgmaaGreat
open Go.RowKit
theorem clipFl_any{w:World}{base:Nat}{v:Value}{n:Nat}{xs:List Value}(h:w.ownsRow base 73 5 v n xs):
  Calls Tryz.prog 104 #[v] w (aGw w base 73 5 n v xs):=by
 rcases h.2 with⟨rfl,h0⟩|⟨g,cap,cur,rfl,hbase,hb,h1,h2,h3,h4⟩
 ·subst h0;have hr:=aBn (P:=Tryz.prog) w 38 73 5 Tryz.underlying38 (Tryz.sizeOf73 w);have hx:=h.1;have hx2:=yH hx;clear h hx;go_enter Tryz.func104,Tryz.ntmps104;go_wp2;refine bodyPost_ret (v:=.slice none 0 0) (by simp[results,Tryz.results104,go_sem]) rfl ?_;exact⟨_,rfl,⟨hx2.out,.inl ⟨rfl,rfl⟩⟩,rfl,rfl⟩
 have hr:=aCj (P:=Tryz.prog) w 38 73 5 Tryz.underlying38 (Tryz.sizeOf73 w) g n cap h1;have HR:=yH (show aCl w base 73 5 (.slice (some ⟨g,0,none⟩) n n) n xs from⟨h.1,.inr ⟨g,cur,rfl,hbase,hb,by omega,by omega,h4⟩⟩);clear h hb h4 h3;unfold maxLen at h2;go_enter Tryz.func104,Tryz.ntmps104;go_wp2;refine bodyPost_ret (v:=.slice (some ⟨g,0,none⟩) n n) (by simp[results,Tryz.results104,go_sem]) rfl ?_;exact⟨_,rfl,HR.out,rfl,rfl⟩
def aSy(w:World)(ao:Option Addr)(tk pt:Int)(fs:List Fl):Prop:=
 ∀k (h:k<fs.length),∃b,ao=some ⟨b,0,none⟩∧∀w',Below w.heap.size w w'→b<w'.heap.size∧∀j,j<5→w'.cell? ⟨b,k*5+j,none⟩=(fs[k].vals tk pt)[j]?
theorem aSz{w:World}{base:Nat}{ao:Option Addr}{n cap:Nat}{e:TypeId}{tk pt:Int}{fs:List Fl}(h:aCl w base e 5 (.slice ao n cap) n (aCm tk pt fs)):aSy w ao tk pt fs:=by
 intro k hk;have hz:=aL0 tk pt fs;obtain⟨ao',cap',hv,_,_,hl,h4⟩:=h.look
 cases hv
 obtain⟨b,rfl,_,hb,hc,_⟩:=h4 (by omega);refine⟨b,rfl,fun w' q=>⟨yM hb q.size,fun j hj=>?_⟩⟩;rw[q.cell (p:=⟨b,k*5+j,none⟩) hb,hc _ (by omega),aL1 tk pt fs k j hj hk]
end Go.Proofs.YtaeocliklpcgmaaGreat
