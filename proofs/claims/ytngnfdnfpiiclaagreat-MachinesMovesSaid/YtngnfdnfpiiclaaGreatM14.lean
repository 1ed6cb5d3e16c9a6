/- Pieces of one proof. -/
import Derived.Test.YtngnfdnfpiiclaaGreatM13
set_option linter.all false
set_option maxHeartbeats 64000000
set_option maxRecDepth 100000
namespace Go.Proofs.YtngnfdnfpiiclaaGreat
open Go.RowKit
theorem aSb(x:Of){c1 c2:Nat}{s b:Int}{w:World}(h1:Blk w c1 #[.int .u8 s] 69)(h2:Blk w c2 #[.int .u8 b] 69):
  Calls Tryz.prog 294 #[.agg #[.int .u64 x.se,.int .u8 x.ow,.int .u8 x.sl,.int .u8 x.bu,.int .i64 x.lf,.int .i64 x.nu,.int .i64 x.de],.pointer (some ⟨c1,0,none⟩),.pointer (some ⟨c2,0,none⟩)] w (yR w (.bool (!aBf s b x))):=by
 have B0:=yH ((Below.refl w.heap.size w).alloc yL (.cells #[.int .u64 x.se,.int .u8 x.ow,.int .u8 x.sl,.int .u8 x.bu,.int .i64 x.lf,.int .i64 x.nu,.int .i64 x.de] 197));have k1:=h1.alloc (.cells #[.int .u64 x.se,.int .u8 x.ow,.int .u8 x.sl,.int .u8 x.bu,.int .i64 x.lf,.int .i64 x.nu,.int .i64 x.de] 197);have k2:=h2.alloc (.cells #[.int .u64 x.se,.int .u8 x.ow,.int .u8 x.sl,.int .u8 x.bu,.int .i64 x.lf,.int .i64 x.nu,.int .i64 x.de] 197);have d0:=k1.cell 0;have e0:=k2.cell 0;simp at d0 e0;clear k1 k2 h1 h2;unfold aBf
 by_cases q1:x.sl=s
 ·have p2:(x.sl != s)=false:=v6 q1
  by_cases q2:x.bu=b
  ·have p4:(x.bu != b)=false:=v6 q2
   rw[decide_eq_true (And.intro q1 q2)];clear q1 q2;go_enter Tryz.func294,Tryz.ntmps294;go_wp2_with fail;go_ret;exact⟨rfl,B0.o⟩
  have p4:(x.bu != b)=true:=v6 q2
  rw[decide_eq_false (fun k=>q2 k.2)];clear q1 q2;go_enter Tryz.func294,Tryz.ntmps294;go_wp2_with fail;go_ret;exact⟨rfl,B0.o⟩
 have p2:(x.sl != s)=true:=v6 q1
 rw[decide_eq_false (fun k=>q1 k.1)];clear q1;go_enter Tryz.func294,Tryz.ntmps294;go_wp2_with fail;go_ret;exact⟨rfl,B0.o⟩
def aEk(l:List Of)(s b:Int):Nat:=l.findIdx fun x=>!aBf s b x
theorem posB_le(l:List Of)(s b:Int):aEk l s b≤l.length:=List.findIdx_le_length
theorem posB_at{l:List Of}{s b:Int}{k:Nat}(hk:k<l.length)(hn:∀x∈l.take k,aBf s b x=true)(hx:aBf s b l[k]=false):aEk l s b=k:=by
 unfold aEk;rw[List.findIdx_eq hk];refine⟨by simp[hx],fun j hj=>?_⟩;have:=hn l[j] zA;simp[this]
theorem posB_none{l:List Of}{s b:Int}(hn:∀x∈l,aBf s b x=true):aEk l s b=l.length:=by
 unfold aEk;rw[List.findIdx_eq_length];intro x hx;simp[hn x hx]
theorem aSc{l:List Of}{s b:Int}{j:Nat}(hj:j<aEk l s b):aBf s b (l[j]'(yM hj (posB_le l s b)))=true:=by
 have:=List.not_of_lt_findIdx (p:=fun x=>!aBf s b x) (xs:=l) (i:=j) hj;simpa using this
theorem posB_hit{l:List Of}{s b:Int}(h:aEk l s b<l.length):aBf s b l[aEk l s b]=false:=by
 have:=List.findIdx_getElem (p:=fun x=>!aBf s b x) (xs:=l) (w:=h);rw[Bool.not_eq_true']at this;exact this
def idxB(l:List Of)(s b:Int):Value:=if aEk l s b<l.length then .int .i64 (aEk l s b:Nat)else .int .i64 (-1)
def IdxBAt(w:World)(l:List Of)(s b:Int)(i:Value)(wr:World):Prop:=
 ∃k:Nat,k≤l.length∧i=.int .i64 k∧(∀x∈l.take k,aBf s b x=true)∧Below w.heap.size w wr
theorem pidxB_any{w:World}{base c1 c2:Nat}{l:List Of}{s b:Int}{v:Value}(h:w.ownsRow base 197 7 v l.length (aAb l))(h1:Blk w c1 #[.int .u8 s] 69)(h2:Blk w c2 #[.int .u8 b] 69):
  Calls Tryz.prog 244 #[v,.func (.func 294) #[] #[.pointer (some ⟨c1,0,none⟩),.pointer (some ⟨c2,0,none⟩)]] w (yR w (idxB l s b)):=by
 obtain⟨ao,cap,rfl,hc1,hc2,hc3,hc4⟩:=aAh h;have HC:=yH hc4;have K1:=yH h1;have K2:=yH h2;unfold maxLen at hc2;clear hc3 hc4 h h1 h2;go_enter Tryz.func244,Tryz.ntmps244;go_wp2_with fail
 go_loopw [5,8] (fun _ i wr=>IdxBAt w l s b i wr) (fun _ i _=>l.length - (intOf i).toNat)
 case atStart=>exact⟨0,Nat.zero_le _,rfl,zV,yZ⟩
 obtain⟨k,hk,rfl,hn,hb⟩:=hrel
 by_cases hkl:k<l.length
 ·obtain⟨g,rfl,hb1,hb2,hcell,_⟩:=HC.o zQ;obtain⟨e0,e1,e2,e3,e4,e5,e6⟩:=aCw (w:=wr) (fun j hj=>by rw[hb.cell (p:=⟨g,j,none⟩) hb2];exact hcell j hj) hkl;have FA:=yH (fun hx=>posB_at (s:=s) (b:=b) hkl hn hx);have TN:=yH (fun hx=>aJl (q:=fun x=>aBf s b x=true) hkl hn hx);have C1:=yH (aSb l[k] (K1.o.below hb K1.o.lt) (K2.o.below hb K2.o.lt));have HB:=yH hb;clear hcell hn hb;generalize l[k]=x at *
  cases hx:aBf s b x with
  | false=>
   have E:=yH (FA.o hx);rw[hx]at C1;clear FA TN hx;go_wp2_with fail;refine C1.o.mono ?_;rintro e w2 ⟨rfl,b2⟩;have HB2:=yT HB b2;clear b2;go_wp2_with fail;go_ret;refine⟨?_,HB2.o⟩;unfold idxB;rw[E.o,if_pos hkl];rfl
  | true=>
   have E:=yH (TN.o hx);rw[hx]at C1;clear FA TN hx;go_wp2_with fail;refine C1.o.mono ?_;rintro e w2 ⟨rfl,b2⟩;have HB2:=yT HB b2;clear b2;go_wp2_with fail;go_roundw
   case rel=>exact⟨k+1,zQ,by go_num,E.o,HB2.o⟩
   case measure=>simp[intOf];omega
 have E:Hid (aEk l s b=l.length):=yH (posB_none (by have:=hn;rwa [List.take_of_length_le zQ]at this));have HB:=yH hb;clear hn hb;go_wp2_with fail;go_ret;refine⟨?_,HB.o⟩;unfold idxB;rw[E.o,if_neg zQ];rfl
theorem aUg:∀(l:List Of) (k:Nat) (x:Of),k<l.length→(aAb l).take (k*7)++x.vals++(aAb l).drop (k*7+7)=aAb (l.set k x):=by
 intro l k x h;have e0:aAb l=aAb (l.take k)++aAb (l.drop k):=xU
 have e1:aAb l=aAb (l.take (k+1))++aAb (l.drop (k+1)):=xU
 have h1:(aAb l).take (k*7)=aAb (l.take k):=by rw[e0,List.take_left' y8]
 have h2:(aAb l).drop (k*7+7)=aAb (l.drop (k+1)):=by rw[e1,List.drop_left' y8]
 rw[h1,h2,List.set_eq_take_append_cons_drop,if_pos h,aBc,show x::l.drop (k+1)=[x]++l.drop (k+1)from rfl,aBc,aIm,List.append_assoc]
theorem owns_store{w:World}{base g n cap k:Nat}{e:TypeId}{d:List Of}(h:w.ownsRow base e 7 (.slice (some ⟨g,0,none⟩) n cap) n (aAb d))(hd:d.length=n)(hk:k<n)(x:Of):
  (w.setCells g (k*7) x.vals).ownsRow base e 7 (.slice (some ⟨g,0,none⟩) n cap) n (aAb (d.set k x)):=by
 obtain⟨_,hx⟩:=h;rcases hx with⟨hx,_⟩|⟨g',cap',cur,hv,hbase,hb,h1,h2,h3,h4⟩
 ·cases hx
 cases hv
 obtain⟨cur',hb',hc'⟩:=aCx (w:=w) (e:=e) x.vals (k*7) cur hb (by rw[Of.vals_len,h3];omega);refine⟨by rw[aAy,List.length_set,hd],.inr ⟨g,cap,cur',rfl,hbase,hb',h1,h2,?_,?_⟩⟩
 ·rw[←Array.length_toList,hc'];simp only[List.length_append,List.length_take,List.length_drop,Array.length_toList,Of.vals_len,h3];omega
 rw[hc',←aUg d k x zQ,←h4,Of.vals_len];have hcl:cur.toList.length=cap*7:=by rw[Array.length_toList,h3]
 rw[List.take_take,Nat.min_eq_left zQ,List.take_append,List.length_append,List.length_take,Of.vals_len,hcl,Nat.min_eq_left zQ];rw[List.take_of_length_le (l:=cur.toList.take (k*7)++x.vals) (by rw[List.length_append,List.length_take,Of.vals_len,hcl];omega),List.drop_take]
theorem zero_one(n:Nat):∀u∈(Builtin.zeroCells zOff.cells n).toList,u.oneCell'=true:=by
 intro u hu;unfold Builtin.zeroCells at hu;simp at hu;obtain⟨i,hi,rfl⟩:=hu;have h7:zOff.cells.size=7:=rfl;rw[h7];have h:=Nat.mod_lt i (show 7 > 0 by omega);generalize i%7=m at *
 match m,h with
 | 0,_=>rfl
 | 1,_=>rfl
 | 2,_=>rfl
 | 3,_=>rfl
 | 4,_=>rfl
 | 5,_=>rfl
 | 6,_=>rfl
theorem aQb(n:Nat):(Builtin.zeroCells zOff.cells n).toList.length=n*7:=by
 unfold Builtin.zeroCells;simp;rfl
theorem owns_cut{w:World}{base g n cap i:Nat}{e:TypeId}{d f:List Of}(h:w.ownsRow base e 7 (.slice (some ⟨g,0,none⟩) n cap) n (aAb d))(hd:d.length=n)(hi:i≤n)(hf:d.take i=f)(hfl:f.length=i)(zs:List Value)(hz:zs.length=(n - i)*7):
  (w.setCells g (i*7) zs).ownsRow base e 7 (.slice (some ⟨g,0,none⟩) i cap) i (aAb f):=by
 obtain⟨_,hx⟩:=h;rcases hx with⟨hx,_⟩|⟨g',cap',cur,hv,hbase,hb,h1,h2,h3,h4⟩
 ·cases hx
 cases hv
 obtain⟨cur',hb',hc'⟩:=aCx (w:=w) (e:=e) zs (i*7) cur hb (by rw[hz,h3];omega);refine⟨by rw[aAy,hfl],.inr ⟨g,cap,cur',rfl,hbase,hb',zQ,h2,?_,?_⟩⟩
 ·rw[←Array.length_toList,hc'];simp only[List.length_append,List.length_take,List.length_drop,Array.length_toList,hz,h3];omega
 have hcl:cur.toList.length=cap*7:=by rw[Array.length_toList,h3]
 rw[hc',List.append_assoc,List.take_append_of_le_length (by rw[List.length_take,hcl];omega),List.take_take,Nat.min_self];have e1:cur.toList.take (i*7)=(cur.toList.take (n*7)).take (i*7):=vU
 rw[e1,h4,←hf];have e0:aAb d=aAb (d.take i)++aAb (d.drop i):=xU
 rw[e0,List.take_left' y8]
theorem aI8{w:World}{base g n cap o:Nat}{e:TypeId}{xs:List Value}(h:w.ownsRow base e 7 (.slice (some ⟨g,0,none⟩) n cap) n xs)(ho:o<n*7):(w.cell? ⟨g,o,none⟩).isSome=true∧w.frozen? ⟨g,o,none⟩=false:=by
 obtain⟨_,hx⟩:=h;rcases hx with⟨hx,_⟩|⟨g',cap',cur,hv,hbase,hb,h1,h2,h3,h4⟩
 ·cases hx
 cases hv
 refine⟨?_,Blk.frozen (show Blk w g cur e from hb) o⟩;rw[Blk.cell (show Blk w g cur e from hb),Array.getElem?_eq_getElem (uX h3)];rfl
theorem owns_there{w:World}{base g n cap k:Nat}{e:TypeId}{xs:List Value}(h:w.ownsRow base e 7 (.slice (some ⟨g,0,none⟩) n cap) n xs)(hk:k<n):w.there g (k*7) 7:=fun j hj=>aI8 h zQ
theorem aN5{P:Program}(w:World)(t e:TypeId)(ht:P.underlying t=some (.slice e))(hs:(sizeOf e).run P w=.ok 7 w)(g n cap j:Nat)(h:j<n)(h2:n≤cap):
  (Instr.sliceAt t (.slice (some ⟨g,0,none⟩) n cap) (some (.int .i64 (j:Int))) none none).run P w=.ok (.slice (some ⟨g,j*7,none⟩) (n - j) (cap - j)) w:=by
 have:=aIc (P:=P) w t e ht hs g n cap j zQ h2 (j:Int) rfl;unfold aK4 at this;rw[if_neg zQ]at this;exact this
def aCy(l:List Of)(s b:Int)(j:Nat):Nat:=((l.take j).filter (aBf s b)).length
theorem aOx(l:List Of)(s b:Int){j:Nat}(h:j<l.length):aCy l s b (j+1)=aCy l s b j+(if aBf s b l[j]=true then 1 else 0):=by
 unfold aCy;rw[List.take_succ_eq_append_getElem h,List.filter_append,List.length_append];congr 1
 by_cases q:aBf s b l[j]=true <;> simp[List.filter_cons,q]
theorem keptN_le(l:List Of)(s b:Int)(j:Nat):aCy l s b j≤j:=by
 unfold aCy;exact Nat.le_trans (List.length_filter_le _ _) (List.length_take_le _ _)
structure aGv(l d:List Of)(s b:Int)(j:Nat):Prop where
 len:d.length=l.length
 lt:aCy l s b j<j
 low:d.take (aCy l s b j)=(l.take j).filter (aBf s b)
 high:d.drop j=l.drop j
theorem aGv.start{l:List Of}{s b:Int}(h:aEk l s b<l.length):aGv l l s b (aEk l s b+1)∧aCy l s b (aEk l s b+1)=aEk l s b:=by
 have hall:(l.take (aEk l s b)).filter (aBf s b)=l.take (aEk l s b):=by
  rw[List.filter_eq_self];intro x hx;obtain⟨j,hj,rfl⟩:=List.mem_take_iff_getElem.1 hx;exact aSc zQ
 have hf:(l.take (aEk l s b+1)).filter (aBf s b)=l.take (aEk l s b):=by
  rw[List.take_succ_eq_append_getElem h,List.filter_append,hall];simp[List.filter_cons,posB_hit h]
 have hk:aCy l s b (aEk l s b+1)=aEk l s b:=by
  unfold aCy;rw[hf,List.length_take];omega
 exact⟨⟨rfl,zQ,by rw[hk,hf],rfl⟩,hk⟩
theorem aGv.get{l d:List Of}{s b:Int}{j:Nat}(h:aGv l d s b j)(hj:j<l.length):d[j]'(by rw[h.len];exact hj)=l[j]:=by
 have h1:d.drop j=l.drop j:=h.high;have h2:(d.drop j)[0]? = (l.drop j)[0]? := by rw[h1]
 rw[List.getElem?_drop,List.getElem?_drop,Nat.add_zero,List.getElem?_eq_getElem (by rw[h.len];exact hj),List.getElem?_eq_getElem hj]at h2;exact Option.some.inj h2
theorem aGv.skip{l d:List Of}{s b:Int}{j:Nat}(h:aGv l d s b j)(hj:j<l.length)(hq:aBf s b l[j]=false):aGv l d s b (j+1)∧aCy l s b (j+1)=aCy l s b j:=by
 have hk:aCy l s b (j+1)=aCy l s b j:=by rw[aOx l s b hj,hq];simp
 refine⟨⟨h.len,uV h.lt,?_,?_⟩,hk⟩
 ·rw[hk,h.low,List.take_succ_eq_append_getElem hj,List.filter_append];simp[List.filter_cons,hq]
 rw[←List.drop_drop,h.high,List.drop_drop]
theorem aGv.keep{l d:List Of}{s b:Int}{j:Nat}(h:aGv l d s b j)(hj:j<l.length)(hq:aBf s b l[j]=true):aGv l (d.set (aCy l s b j) l[j]) s b (j+1)∧aCy l s b (j+1)=aCy l s b j+1:=by
 have hk:aCy l s b (j+1)=aCy l s b j+1:=by rw[aOx l s b hj,hq];simp
 have hlt:=h.lt;refine⟨⟨by rw[List.length_set];exact h.len,zQ,?_,?_⟩,hk⟩
 ·have hl:aCy l s b j<d.length:=uX h.len
  rw[hk,List.take_succ_eq_append_getElem (by rw[List.length_set];exact hl),List.take_set_of_le yL,h.low,List.getElem_set_self,List.take_succ_eq_append_getElem hj,List.filter_append];simp[List.filter_cons,hq]
 rw[List.drop_set_of_lt zQ,←List.drop_drop,h.high,List.drop_drop]
def DelAt(w:World)(base g cap:Nat)(l:List Of)(s b:Int)(s5 s6:Value)(wr:World):Prop:=
 ∃(j:Nat) (d:List Of),j≤l.length∧s5=.int .i64 (aCy l s b j:Nat)∧s6=.int .i64 j∧aGv l d s b j∧wr.ownsRow base 197 7 (.slice (some ⟨g,0,none⟩) l.length cap) l.length (aAb d)∧Keep (·=g) w wr
theorem pdelf_any{w:World}{base c1 c2:Nat}{l:List Of}{s b:Int}{v:Value}(h:w.ownsRow base 197 7 v l.length (aAb l))(hl:l.length≤1000)(h1:Blk w c1 #[.int .u8 s] 69)(h2:Blk w c2 #[.int .u8 b] 69):
  Calls Tryz.prog 293 #[v,.func (.func 294) #[] #[.pointer (some ⟨c1,0,none⟩),.pointer (some ⟨c2,0,none⟩)]] w fun e w'=>∃v',e=.returned v'∧w'.ownsRow base 197 7 v' (l.filter (aBf s b)).length (aAb (l.filter (aBf s b)))∧Keep (fun k=>v.ownBlock=some k) w w'∧v'.ownBlock=v.ownBlock:=by
 have CI:=yH (pidxB_any h h1 h2)
 by_cases hp:aEk l s b<l.length
 ·rw[show idxB l s b=.int .i64 (aEk l s b:Nat) by unfold idxB;rw[if_pos hp]]at CI;obtain⟨D0,kp⟩:=aGv.start hp;obtain⟨ao,cap,rfl,hc1,hc2,hc3,hc4⟩:=aAh h;obtain⟨g,rfl,hb1,hb2,_,_⟩:=hc4 zQ;have hne1:c1≠g:=fun e=>(aB3 h h1 zX) g rfl e.symm
  have hne2:c2≠g:=fun e=>(aB3 h h2 zX) g rfl e.symm
  have HO:=yH h;have K1:=yH h1;have K2:=yH h2;have HD0:=yH D0;have HKP:=yH kp;have HN:=yH (And.intro hne1 hne2);have e1:((aEk l s b:Int) == -1)=false:=by simp <;> omega
  unfold maxLen at hc2;generalize hpk:aEk l s b=k0 at *;clear hc3 hc4 h h1 h2 D0 kp hne1 hne2 hpk;go_enter Tryz.func293,Tryz.ntmps293;go_wp2_with fail;refine CI.o.mono ?_;rintro e w1 ⟨rfl,b1⟩;have HO1:=yH (aAg HO.o b1);have K11:=yB K1 b1;have K21:=yB K2 b1;have HB1:=yH b1;clear b1 CI HO K1 K2;go_wp2_with fail
  go_loopw [5,6] (DelAt w1 base g cap l s b) (fun _ j _=>l.length - (intOf j).toNat)
  case atStart=>exact⟨k0+1,l,zQ,by rw[HKP.o],by go_num,HD0.o,HO1.o,Keep.refl _ _⟩
  obtain⟨j,d,hj,rfl,rfl,hD,hown,hk⟩:=hrel
  by_cases hjl:j<l.length
  ·have hdl:j<d.length:=by rw[hD.len];exact hjl
   have hget:=hD.get hjl;obtain⟨ao',cap',hv,_,_,_,hr⟩:=aAh hown
   cases hv
   obtain⟨g',hg',_,_,hcell,hfr⟩:=hr zQ
   cases hg'
   obtain⟨e0,e1,e2,e3,e4,e5,e6⟩:=aCw (w:=wr) (ls:=d) (fun t ht=>hcell t (by rw[←hD.len];exact ht)) hdl;rw[hget]at e0 e1 e2 e3 e4 e5 e6;have HDv:=yH hD;have HW:=yH hown;have HK:=yH hk;have K12:=yH (K11.o.keep hk HN.o.1);have K22:=yH (K21.o.keep hk HN.o.2);have hkl:=keptN_le l s b j;have DS:=yH (fun hq=>hD.skip hjl hq);have DK:=yH (fun hq=>hD.keep hjl hq);clear hget hr hcell hfr hown hk hD hdl;generalize l[j]=x at *;generalize hkn:aCy l s b j=m at *;clear hkn;have bw:=(Below.refl wr.heap.size wr).alloc yL (.cells #[.int .u64 x.se,.int .u8 x.ow,.int .u8 x.sl,.int .u8 x.bu,.int .i64 x.lf,.int .i64 x.nu,.int .i64 x.de] 197);have CB:=yH (aSb x (K12.o.below bw K12.o.lt) (K22.o.below bw K22.o.lt));have KX:=yH (Blk.new wr #[.int .u64 x.se,.int .u8 x.ow,.int .u8 x.sl,.int .u8 x.bu,.int .i64 x.lf,.int .i64 x.nu,.int .i64 x.de] 197);have HBW:=yH bw;clear bw
   cases hq:aBf s b x with
   | false=>
    have E:=yH (DS.o hq);rw[hq]at CB;clear DS DK hq;go_wp2_with fail;refine CB.o.mono ?_;rintro e w2 ⟨rfl,b2⟩;have HB2:=yT HBW b2;clear b2;go_wp2_with fail;go_roundw
    case rel=>exact⟨j+1,d,zQ,by rw[E.o.2],by go_num,E.o.1,aAg HW.o HB2.o,HK.o.trans (pAD HB2.o)⟩
    case measure=>simp[intOf];omega
   | true=>
    have E:=yH (DK.o hq);rw[hq]at CB;clear DS DK hq;go_wp2_with fail;refine CB.o.mono ?_;rintro e w2 ⟨rfl,b2⟩;have HB2:=yT HBW b2;have KX2:=KX.o.below b2 KX.o.lt;have d0:=KX2.cell 0;have d1:=KX2.cell 1;have d2:=KX2.cell 2;have d3:=KX2.cell 3;have d4:=KX2.cell 4;have d5:=KX2.cell 5;have d6:=KX2.cell 6;simp at d0 d1 d2 d3 d4 d5 d6;have HW2:=yH (aAg HW.o HB2.o);have HT:=yH (owns_there HW2.o (k:=m) zQ);obtain⟨W3,hW3⟩:∃W3,W3=w2.setCells g (m*7) [.int .u64 x.se,.int .u8 x.ow,.int .u8 x.sl,.int .u8 x.bu,.int .i64 x.lf,.int .i64 x.nu,.int .i64 x.de]:=⟨_,rfl⟩;have HW3:=yH hW3;have HO3:=yH (show W3.ownsRow base 197 7 (.slice (some ⟨g,0,none⟩) l.length cap) l.length (aAb (d.set m x)) by rw[hW3];exact owns_store HW2.o HDv.o.len zQ x);have HK3:=yH (show Keep (·=g) w1 W3 by rw[hW3];exact Keep.setCells _ _ (HK.o.trans (pAD HB2.o)) (.inl rfl));clear b2 KX2 hW3;go_wp2_with (refine wpList_store_mid rfl 197 (.tmp 33) (.tmp 32) rfl g (m*7) #[.int .u64 x.se,.int .u8 x.ow,.int .u8 x.sl,.int .u8 x.bu,.int .i64 x.lf,.int .i64 x.nu,.int .i64 x.de] rfl rfl HT.o zW zK ?_;rw[←HW3.o]);go_roundw
    case rel=>exact⟨j+1,d.set m x,zQ,by rw[E.o.2];go_num,by go_num,E.o.1,HO3.o,HK3.o⟩
    case measure=>simp[intOf];omega
  have hje:j=l.length:=zQ
  subst hje;have hkl:=hD.lt;have hlo:=hD.low;have hdn:=hD.len;rw[List.take_of_length_le yL]at hlo;have hfl:(l.filter (aBf s b)).length=aCy l s b l.length:=by unfold aCy;rw[List.take_of_length_le yL]
  have HK:=yH hk;have HC:=yH (owns_cut hown hdn zQ hlo hfl (Builtin.zeroCells zOff.cells (l.length - aCy l s b l.length)).toList (by rw[aQb]))
  have hcl:∀ty,(Builtin.clear_ #[156] ty #[.slice (some ⟨g,aCy l s b l.length*7,none⟩) (l.length - aCy l s b l.length) (cap - aCy l s b l.length)]).run Tryz.prog wr=.ok (.tuple #[]) (wr.setCells g (aCy l s b l.length*7) (Builtin.zeroCells zOff.cells (l.length - aCy l s b l.length)).toList):=fun ty=>
   aHb wr 156 197 ty zOff Tryz.underlying156 (Tryz.zeroValue197) g (aCy l s b l.length*7) _ _ zQ (zero_one _)
    (fun t ht=>(aI8 hown (by rw[aQb]at ht;omega)).1) (fun t ht=>(aI8 hown (by rw[aQb]at ht;omega)).2)
  have hr:=aN5 (P:=Tryz.prog) wr 156 197 Tryz.underlying156 (Tryz.sizeOf197 _) g l.length cap (aCy l s b l.length) hkl zQ;obtain⟨W3,hW3⟩:∃W3,W3=wr.setCells g (aCy l s b l.length*7) (Builtin.zeroCells zOff.cells (l.length - aCy l s b l.length)).toList:=⟨_,rfl⟩;have HK3:=yH (show Keep (·=g) w1 W3 by rw[hW3];exact Keep.setCells _ _ HK.o (.inl rfl));simp only[←hW3]at hcl HC;rw[←hfl]at HC hcl hr hkl ⊢;obtain⟨m,hm⟩:∃m,(l.filter (aBf s b)).length=m:=⟨_,rfl⟩;rw[hm]at HC hcl hr hkl ⊢;have HM:=yH hm;clear hm;have hic:m≤cap:=zQ
  clear hW3 hfl hlo hdn hown hk hD;go_wp2_with fail;refine bodyPost_ret (v:=.slice (some ⟨g,0,none⟩) m cap) (by simp[results,Tryz.results293,go_sem]) rfl ?_;exact⟨_,rfl,by rw[HM.o];exact HC.o,((pAD HB1.o).trans HK3.o).mono (fun k _ (hk:k=g)=>by rw[hk];rfl),rfl⟩
 rw[show idxB l s b=.int .i64 (-1) by unfold idxB;rw[if_neg hp]]at CI
 have hfe:l.filter (aBf s b)=l:=by
  rw[List.filter_eq_self];intro x hx;obtain⟨j,hj,rfl⟩:=List.mem_iff_getElem.1 hx;exact aSc (uV (posB_le l s b))
 rw[hfe];obtain⟨ao,cap,rfl,_⟩:=aAh h;have HO:=yH h;clear h h1 h2 hp hfe;go_enter Tryz.func293,Tryz.ntmps293;go_wp2_with fail;refine CI.o.mono ?_;rintro e w1 ⟨rfl,b1⟩;have HB1:=yH b1;clear b1 CI;go_wp2_with fail;refine bodyPost_ret (v:=.slice ao l.length cap) (by simp[results,Tryz.results293,go_sem]) rfl ?_;exact⟨_,rfl,aAg HO.o HB1.o,pAD HB1.o,rfl⟩
theorem pbest_of{w:World}{base:Nat}{pv v:Value}{l:List Of}{N:Int}{s b:Int}(hc:∀w',Below w.heap.size w w'→Calls Tryz.prog 104 #[pv] w' fun e w''=>e=.returned v∧w'=w'')(h:w.ownsRow base 197 7 v l.length (aAb l))(hI:BInv l N):
  Calls Tryz.prog 270 #[pv,.int .u8 s,.int .u8 b] w (aFe w 75 7 (aC5 l s b).length (aAb (aC5 l s b))):=by
 have hlen:=hI.len;have hbw:=((Below.refl w.heap.size w).alloc yL (.cells #[.int .u8 s] 69)).alloc zV (.cells #[.int .u8 b] 69);have HB:=yH hbw;have K1:=yH ((Blk.new w #[.int .u8 s] 69).alloc (.cells #[.int .u8 b] 69));have K2:=yH (pAB (w.alloc (.cells #[.int .u8 s] 69)) #[.int .u8 b] 69 (g:=w.heap.size+1) zV);have C1:=yH (hc _ hbw);have C2:=yH (aOm (aAg h hbw) zQ);obtain⟨bp,bs⟩:=bestO_is hI.may hI.rise s b
 have hgood:∀x∈l.filter (aBf s b),x.may∧0≤x.se∧x.se≤18446744073709551615:=fun x hx=>by
  have hx:=(List.mem_filter.1 hx).1;have:=hI.bd x hx;have:=hI.n2;exact⟨hI.may x hx,zQ,zQ⟩
 have hne:(l.filter (aBf s b)).Pairwise fun x y=>x.se≠y.se:=(hI.rise.filter _).imp fun h=>zQ
 have hfl:(l.filter (aBf s b)).length≤1000:=Nat.le_trans (List.length_filter_le _ _) zQ;have HS:=yH (fun(w:World) (base:Nat) (v:Value) (h:w.ownsRow base 197 7 v (l.filter (aBf s b)).length (aAb (l.filter (aBf s b))))=>sortO_any hgood bp bs hne hfl h);have HM:=yH (show(aC5 l s b).length≤1000 by rw[bp.length_eq];exact hfl);clear hbw hc h hI bp bs hgood hne hfl;go_enter Tryz.func270,Tryz.ntmps270;go_wp2_with fail;generalize hWW:(w.alloc (.cells #[.int .u8 s] 69)).alloc (.cells #[.int .u8 b] 69)=W at *;have HWs:=yH (show W.heap.size=w.heap.size+2 by rw[←hWW];simp);clear hWW;refine C1.o.mono ?_;rintro e W ⟨rfl,rfl⟩;go_wp2_with fail;refine C2.o.mono ?_;rintro e w1 ⟨v1,rfl,o1,b1⟩;have CD:=yH (pdelf_any o1 zQ (K1.o.below b1 K1.o.lt) (K2.o.below b1 K2.o.lt));have HB1:=yT HB b1;have HO1:=yH o1;clear o1 b1 C2 C1;go_wp2_with fail;refine CD.o.mono ?_;rintro e w2 ⟨v2,rfl,o2,k2,e2⟩;have CS:=yH (HS.o _ _ _ o2);have HE:=yH e2;have hv2:∃ao c,v2=.slice ao (l.filter (aBf s b)).length c:=by obtain⟨ao,c,hv,_⟩:=aAh o2;exact⟨ao,c,hv⟩
 have HB2:=yH (HB1.o.trans (k2.below HB1.o.size (fun k hk e=>by have:=(aAf HO1.o e).1;have:=HWs.o;omega)));have HO2:=yH o2;clear o2 k2 e2 CD;obtain⟨ao,c,rfl⟩:=hv2;go_wp2_with fail;refine CS.o.mono ?_;rintro e w3 ⟨rfl,o3,k3⟩;have CT:=yH (told_any o3 HM.o);have HB3:=yH (HB2.o.trans (k3.below HB2.o.size (fun k hk e=>by have:=(aAf HO2.o e).1;have:=HWs.o;omega)));clear o3 k3 CS;go_wp2_with fail;refine CT.o.mono ?_;rintro e w4 ⟨v',rfl,h1,b4⟩;have H1:=yH h1;have HB4:=yT HB3 b4;clear h1 b4 CT;go_wp2_with fail;refine bodyPost_ret (v:=v') (by simp[results,Tryz.results270,go_sem]) rfl ?_;exact⟨v',rfl,H1.o.base HB3.o.size,HB4.o⟩
theorem aSd{w:World}{base g:Nat}{l:List Of}{N:Int}{vl:Value}(h:PB w base g l N vl)(hI:BInv l N)(s b:Int):
  Calls Tryz.prog 270 #[.pointer (some ⟨g,0,none⟩),.int .u8 s,.int .u8 b] w (aFe w 75 7 (aC5 l s b).length (aAb (aC5 l s b))):=by
 obtain⟨ao,cap,rfl,_⟩:=aAh h.row;exact pbest_of (fun w' k=>ball_any (h.below k).blk) h.row hI
end Go.Proofs.YtngnfdnfpiiclaaGreat
namespace Go.Proofs.YtngnfdnfpiiclaaGreat
open Go.RowKit
attribute [local go_sem] Oper.semAt_some
theorem aIg{p:Of→Bool}:∀{l:List Of} {k:Nat} (hk:k<l.length),k≤(l.takeWhile p).length→(p l[k]=true→k<(l.takeWhile p).length∧(l.takeWhile p)[k]? = some l[k])∧(p l[k]=false→(l.takeWhile p).length≤k)
 | [],k,hk,_=>absurd hk zV
 | z::l,0,hk,_=>by
  constructor
  ·intro h;have h':p z=true:=h;rw[List.takeWhile_cons,if_pos h'];simp
  ·intro h;have h':p z=false:=h;rw[List.takeWhile_cons,if_neg (by simp[h'])];simp
 | z::l,k+1,hk,h1=>by
  rw[List.takeWhile_cons]at h1 ⊢
  by_cases h:p z=true
  ·rw[if_pos h]at h1 ⊢;have hk':k<l.length:=vN
   obtain⟨a,b⟩:=aIg (p:=p) hk' zR;exact⟨fun q=>by obtain⟨a1,a2⟩:=a q;exact⟨v6 a1,v6 a2⟩,fun q=>by have:=b q;simpa using this⟩
  rw[if_neg h]at h1;simp at h1
theorem aLe(p:Of→Bool):∀l:List Of,(l.takeWhile p).length≤l.length
 | []=>zV
 | z::l=>by
  rw[List.takeWhile_cons];have:=aLe p l;split
  ·simp only[List.length_cons];omega
  simp
theorem aUh(x:Of)(b:Option Addr)(w:World):
  Calls Tryz.prog 278 #[.agg #[.int .u64 x.se,.int .u8 x.ow,.int .u8 x.sl,.int .u8 x.bu,.int .i64 x.lf,.int .i64 x.nu,.int .i64 x.de],.pointer b] w fun e w'=>e=.returned (.func (.func 304) #[] #[(.pointer (some ⟨w.heap.size,0,none⟩)),(.pointer (some ⟨w.heap.size+1,0,none⟩))])∧w'=(w.alloc (.cells #[.int .u64 x.se,.int .u8 x.ow,.int .u8 x.sl,.int .u8 x.bu,.int .i64 x.lf,.int .i64 x.nu,.int .i64 x.de] 294)).alloc (.cells #[.pointer b] 78):=by
 go_enter Tryz.func278,Tryz.ntmps278;go_wp2;go_ret;exact⟨rfl,rfl⟩
theorem aBk.old{w w':World}{B l base size n:Nat}{e:TypeId}{v:Value}{xs:List Value}(h:aBk w base e size v n xs)(k:aP6 B l w w')(hB:B≤base)(hl:l<base):aBk w' base e size v n xs:=by
 obtain⟨h1,h2|⟨g,cs,hv,hg,hb,h3,h4,h5⟩⟩:=h
 ·exact⟨h1,.inl h2⟩
 exact⟨h1,.inr ⟨g,cs,hv,hg,Blk.old hb k zQ zQ,h3,h4,h5⟩⟩
def AgIt(J:Nat→World→Prop)(W0:World)(g:Nat)(nu de:Int)(os:List Of)(m:Nat)(v i:Value)(wr:World):Prop:=
 ∃k:Nat,i=.int .i64 k∧k≤m∧J k wr∧Blk wr g #[.int .i64 de,.int .i64 nu] 73∧aBk wr W0.heap.size 75 7 v os.length (aAb os)∧W0.heap.size≤wr.heap.size
theorem aUi{I:Nat→World→Prop}{b1 b2 base gb:Nat}{l:List Of}{N:Int}{vb:Value}(x:Of)(hx:x.Fits)(hm:mayB x.nu x.de=true)(hJ:BInv l N)
  (hI:∀k W,I k W→PB W base gb l N vb∧Blk W b1 #[.int .u64 x.se,.int .u8 x.ow,.int .u8 x.sl,.int .u8 x.bu,.int .i64 x.lf,.int .i64 x.nu,.int .i64 x.de] 294∧Blk W b2 #[(.pointer (some ⟨gb,0,none⟩))] 78):
  SeqK Tryz.prog 304 #[(.pointer (some ⟨b1,0,none⟩)),(.pointer (some ⟨b2,0,none⟩))] 0 (fun k=>(agO l x.sl x.bu x.nu x.de).length≤k) (fun k vs _=>∃o:Of,(agO l x.sl x.bu x.nu x.de)[k]? = some o∧vs=#[.agg #[.int .u64 o.se,.int .u8 o.ow,.int .u8 o.sl,.int .u8 o.bu,.int .i64 o.lf,.int .i64 o.nu,.int .i64 o.de]]) (fun k k'=>k'=k+1) I:=by
 intro n lb B J Jx hgrow hJI hY W0 h0 hB hlb;obtain⟨hP,k1,k2⟩:=hI 0 W0 (hJI 0 W0 h0);have GR:=yH hgrow;have HY:=yH hY;have J0:=yH h0;have HP:=yH hP;have HB:=yH (And.intro hB hlb);have CI:=yH (fun w=>aMz x.nu x.de w hx.nu hx.de);rw[show alN x.nu x.de=x.nu by unfold alN;rw[if_pos hm],show alD x.nu x.de=x.de by unfold alD;rw[if_pos hm]]at CI;have CC:=yH (fun(o:Of) w (ho:o∈aC5 l x.bu x.sl)=>aTs o.nu o.de x.de x.nu w xO xO hx.de hx.nu);have CB:=yH (fun w' (h:PB w' base gb l N vb)=>aSd h hJ x.bu x.sl);obtain⟨m,hmm⟩:∃m,(agO l x.sl x.bu x.nu x.de).length=m:=⟨_,rfl⟩;have TW:=yH (fun(k:Nat) (hk:k<(aC5 l x.bu x.sl).length) (h:k≤m)=>aIg (p:=fun o:Of=>decide (cmpR o.nu o.de x.de x.nu≤0)) hk (by rw[←hmm]at h;exact h));have TL:=yH (show m≤(aC5 l x.bu x.sl).length by rw[←hmm];exact aLe _ _);have AG:=yH (show(aC5 l x.bu x.sl).takeWhile (fun o:Of=>decide (cmpR o.nu o.de x.de x.nu≤0))=agO l x.sl x.bu x.nu x.de from rfl);rw[AG.o,hmm]at TW;rw[hmm];obtain⟨ag,hag⟩:∃ag,agO l x.sl x.bu x.nu x.de=ag:=⟨_,rfl⟩;rw[hag]at TW HY;generalize hos:aC5 l x.bu x.sl=os at *;have d2:=k1.cell 2;have d3:=k1.cell 3;have d5:=k1.cell 5;have d6:=k1.cell 6;have e0:=k2.cell 0;simp at d2 d3 d5 d6 e0;have K1:=yH k1;have K2:=yH k2;clear hgrow hJI hY hI h0 hP hB hlb hx hm hJ k1 k2 hmm AG hag hos;refine callsIn_of_wp Tryz.func304 rfl trivial ?_ rfl;simp only[Tryz.ntmps304,List.size_toArray,List.length_cons,List.length_nil,Nat.reduceAdd,Nat.reduceSub,Array.replicate_succ,Array.replicate_zero,List.push_toArray,List.append_toArray,List.nil_append,List.cons_append]
 gi_wp2_with fail
 refine⟨trivial,(fun hh=>xB),(callsIn_wide.2 (CI.o _)).mono ?_⟩;rintro e w1 ⟨rfl,hb1⟩;have J1:=yH (GR.o 0 W0 w1 J0.o hb1);have bg:=(Below.refl w1.heap.size w1).alloc yL (.cells #[.int .i64 x.de,.int .i64 x.nu] 73);have KG:=yH (Blk.new w1 #[.int .i64 x.de,.int .i64 x.nu] 73);have J2:=yH (GR.o 0 w1 _ J1.o bg);have bw:=hb1.trans (bg.mono hb1.size);have SZ:=yH (show W0.heap.size≤w1.heap.size∧W0.heap.size≤(w1.alloc (.cells #[.int .i64 x.de,.int .i64 x.nu] 73)).heap.size from⟨hb1.size,bw.size⟩);have K1b:=yB K1 bw;have K2b:=yB K2 bw;have CB2:=yH (CB.o _ (HP.o.below bw));clear hb1 bg bw d2 d3 d5 d6 e0 J0 J1 K1 K2 CB HP CI;have d2:=K1b.o.cell 2;have d3:=K1b.o.cell 3;have e0:=K2b.o.cell 0;simp at d2 d3 e0
 gi_wp2_with fail
 generalize w1.alloc (.cells #[.int .i64 x.de,.int .i64 x.nu] 73)=w2 at *;refine⟨trivial,(fun hh=>xB),(callsIn_wide.2 CB2.o).mono ?_⟩;rintro e w3 ⟨v,rfl,hv,hb3⟩;have J3:=yH (GR.o 0 w2 w3 J2.o hb3);have KG3:=yB KG hb3;have RW:=yH (hv.base SZ.o.2);have SZ3:=yH (Nat.le_trans SZ.o.2 hb3.size);obtain⟨ao,cap,rfl,hc1,hc2,_,_⟩:=hv.look;unfold maxLen at hc2;clear hv hb3 d2 d3 e0 J2 KG K1b K2b CB2
 gi_wp2_with fail
 gi_loopw [6,17,19,20,21,22,23,24,25,26,27,28,29,30,31,32] (fun _ i _ _ _ _ _ _ _ _ _ _ _ _ _ _ wr=>AgIt J W0 w1.heap.size x.nu x.de os m (.slice ao os.length cap) i wr) (fun _ i _ _ _ _ _ _ _ _ _ _ _ _ _ _ _=>os.length - (intOf i).toNat)
 case atStart=>exact⟨0,rfl,Nat.zero_le _,J3.o,KG3.o,RW.o,SZ3.o⟩
 obtain⟨k,rfl,hkm,hj,hg,hr,hs⟩:=hrel;have JR:=yH hj;have KR:=yH hg;have RR:=yH hr;have HS:=yH hs
 by_cases hkl:k<os.length
 ·have hki:(k:Int)<(os.length:Int):=zQ
  have hk0:(0:Int)≤(k:Int):=zQ
  obtain⟨_,_,hvv,_,_,_,hcc⟩:=hr.look
  cases hvv
  obtain⟨b,rfl,_,hb,hc,_⟩:=hcc zQ;obtain⟨e0,e1,e2,e3,e4,e5,e6⟩:=aCw (w:=wr) hc hkl;have T:=yH (TW.o k hkl hkm);have CC1:=yH (fun w=>CC.o os[k] w (List.getElem_mem hkl));have HKL:=yH hkl;clear hj hg hr hs hkm hcc hc;generalize os[k]=o at *;clear hkl;have bo:=(Below.refl wr.heap.size wr).alloc yL (.cells #[.int .u64 o.se,.int .u8 o.ow,.int .u8 o.sl,.int .u8 o.bu,.int .i64 o.lf,.int .i64 o.nu,.int .i64 o.de] 75);have KO:=yH (Blk.new wr #[.int .u64 o.se,.int .u8 o.ow,.int .u8 o.sl,.int .u8 o.bu,.int .i64 o.lf,.int .i64 o.nu,.int .i64 o.de] 75);have JR4:=yH (GR.o k wr _ JR.o bo);have KR4:=yB KR bo;have RR4:=yH (RR.o.below bo);have HS4:=yH (Nat.le_trans HS.o bo.size);clear bo JR KR RR HS;obtain⟨c,hcv⟩:∃c,cmpR o.nu o.de x.de x.nu=c:=⟨_,rfl⟩;rw[hcv]at T CC1;clear hcv;have g0:=KR4.o.cell 0;have g1:=KR4.o.cell 1;have o0:=KO.o.cell 0;have o1:=KO.o.cell 1;have o2:=KO.o.cell 2;have o3:=KO.o.cell 3;have o4:=KO.o.cell 4;have o5:=KO.o.cell 5;have o6:=KO.o.cell 6;simp at g0 g1 o0 o1 o2 o3 o4 o5 o6
  gi_wp2_with fail
  generalize wr.alloc (.cells #[.int .u64 o.se,.int .u8 o.ow,.int .u8 o.sl,.int .u8 o.bu,.int .i64 o.lf,.int .i64 o.nu,.int .i64 o.de] 75)=w4 at *;refine⟨trivial,(fun hh=>xB),(callsIn_wide.2 (CC1.o _)).mono ?_⟩;rintro e w5 ⟨rfl,hb5⟩;have JR5:=yH (GR.o k w4 _ JR4.o hb5);have KR5:=yB KR4 hb5;have RR5:=yH (RR4.o.below hb5);have HS5:=yH (Nat.le_trans HS4.o hb5.size);have KO5:=yB KO hb5;clear hb5 g0 g1 o0 o1 o2 o3 o4 o5 o6 e0 e1 e2 e3 e4 e5 e6 JR4 KR4 RR4 HS4 KO CC1 hb;have o0:=KO5.o.cell 0;have o1:=KO5.o.cell 1;have o2:=KO5.o.cell 2;have o3:=KO5.o.cell 3;have o4:=KO5.o.cell 4;have o5:=KO5.o.cell 5;have o6:=KO5.o.cell 6;simp at o0 o1 o2 o3 o4 o5 o6
  by_cases hle:c≤0
  ·have q1:decide (c > 0)=false:=zU
   obtain⟨t1,t2⟩:=T.o.1 (v6 hle);obtain⟨fn,tmps,assign,body,hy,hR⟩:=HY.o (n - 1) k #[.agg #[.int .u64 o.se,.int .u8 o.ow,.int .u8 o.sl,.int .u8 o.bu,.int .i64 o.lf,.int .i64 o.nu,.int .i64 o.de]] w5 JR5.o ⟨o,t2,rfl⟩;have RY:=yH hR;have HT1:=yH t1;clear hle t1 t2 hR T
   gi_wp2_with fail
   refine⟨(fun hh=>xB),RY.o.mono ?_⟩;rintro e W6 ⟨hof,(⟨rfl,k',rfl,hj⟩|⟨rfl,hjx⟩)⟩
   ·have JN:=yH hj;have KN:=yH (Blk.old KR5.o hof (uQ HB.o SZ.o) (uQ HB.o SZ.o));have RN:=yH (RR5.o.old hof (uV HB.o) (uV HB.o));have HN:=yH (Nat.le_trans HS5.o hof.size);clear hj hof RY o0 o1 o2 o3 o4 o5 o6 hy
    gi_wp2_with fail
    go_roundw
    case rel=>exact⟨k+1,by go_num,HT1.o,JN.o,KN.o,RN.o,HN.o⟩
    case measure=>simp[intOf];have:=HKL.o;omega
   have HX:=yH hjx;clear hjx hof RY o0 o1 o2 o3 o4 o5 o6 hy
   gi_wp2_with fail
   refine bodyPost_ret (results_none rfl _ _ _) rfl ?_;exact⟨⟨_,rfl⟩,.inr HX.o⟩
  have q1:decide (c > 0)=true:=zU
  have HE:=yH (T.o.2 (v6 hle));clear hle T
  gi_wp2_with fail
  refine⟨fun _ h=>y6,?_⟩
  gi_wp2_with fail
  refine bodyPost_ret (results_none rfl _ _ _) rfl ?_;exact⟨⟨_,rfl⟩,.inl ⟨k,HE.o,JR5.o⟩⟩
 have q1:decide (k<os.length)=false:=vG
 have HE:=yH (show m≤k by have:=TL.o;omega);clear hj hg hr hs hkm hkl
 gi_wp2_with fail
 go_end0;exact⟨⟨_,rfl⟩,.inl ⟨k,HE.o,JR.o⟩⟩
end Go.Proofs.YtngnfdnfpiiclaaGreat
namespace Go.Proofs.YtngnfdnfpiiclaaGreat
open Go.RowKit
attribute [local go_sem] Oper.semAt_some
structure FsM(w:World)(G M gb base:Nat)(ps:List Int)(ls:List Ln)(l:List Of)(N:Int)(vb:Value)(x:Of)(W:World):Prop where
 below:Below w.heap.size w W
 c:Blk W w.heap.size #[.int .u64 x.se,.int .u8 x.ow,.int .u8 x.sl,.int .u8 x.bu,.int .i64 x.lf,.int .i64 x.nu,.int .i64 x.de] 294
 h:Blk W (w.heap.size+1) #[.pointer (some ⟨G,0,none⟩),.pointer (some ⟨gb,0,none⟩)] 80
 sq:Blk W (w.heap.size+2) #[.int .u64 0] 44
 nn:∃v:Int,Blk W (w.heap.size+3) #[.int .i64 v] 2
 led:LedM W G M ps ls
 book:PB W base gb l N vb
 c4:Blk W (w.heap.size+4) #[.int .u64 x.se,.int .u8 x.ow,.int .u8 x.sl,.int .u8 x.bu,.int .i64 x.lf,.int .i64 x.nu,.int .i64 x.de] 294
 c5:Blk W (w.heap.size+5) #[(.pointer (some ⟨gb,0,none⟩))] 78
 lt:G<w.heap.size∧M<w.heap.size∧∀b,Foot gb vb b→b<w.heap.size
theorem FsM.keep{S:Nat→Prop}{w:World}{G M gb base:Nat}{ps:List Int}{ls:List Ln}{l:List Of}{N:Int}{vb:Value}{x:Of}{W W':World}(h:FsM w G M gb base ps ls l N vb x W)(k:Keep S W W')(hS:∀j,S j→w.heap.size+6≤j):FsM w G M gb base ps ls l N vb x W':=by
 have q:∀j,j<w.heap.size+6→¬S j:=fun j hj hs=>uV (hS j hs)
 obtain⟨v,hv⟩:=h.nn;obtain⟨l1,l2,l3⟩:=h.lt
 exact⟨h.below.trans (k.below h.below.size (fun j hj hs=>q j zQ hs)),h.c.keep k (q _ zQ),h.h.keep k (q _ zQ),h.sq.keep k (q _ zQ),⟨v,hv.keep k (q _ zQ)⟩,
  h.led.keep k (q _ zQ) (q _ zQ),h.book.keep k (q _ (by have:=l3 gb (.inl rfl);omega)) (fun b hb hs=>q b (by have:=l3 b (.inr hb);omega) hs),h.c4.keep k (q _ zQ),h.c5.keep k (q _ zQ),h.lt⟩
theorem FsM.setN{w:World}{G M gb base:Nat}{ps:List Int}{ls:List Ln}{l:List Of}{N:Int}{vb:Value}{x:Of}{W:World}(h:FsM w G M gb base ps ls l N vb x W)(v:Int):FsM w G M gb base ps ls l N vb x (W.setCell ⟨w.heap.size+3,0,none⟩ (.int .i64 v)):=by
 have k:Keep (fun j=>j=w.heap.size+3) W (W.setCell ⟨w.heap.size+3,0,none⟩ (.int .i64 v)):=Keep.setCell (S:=fun j=>j=w.heap.size+3) (Keep.refl _ _) (p:=⟨w.heap.size+3,0,none⟩) (.inl rfl) _;obtain⟨u,hu⟩:=h.nn;obtain⟨l1,l2,l3⟩:=h.lt
 exact⟨h.below.trans (k.below h.below.size (fun j hj hs=>zQ)),h.c.keep k zQ,h.h.keep k zQ,h.sq.keep k zQ,⟨v,hu.set 0 _⟩,
  h.led.keep k zQ zQ,h.book.keep k (by have:=l3 gb (.inl rfl);omega) (fun b hb hs=>by have:=l3 b (.inr hb);omega),h.c4.keep k zQ,h.c5.keep k zQ,h.lt⟩
def FsI(w:World)(G M gb base:Nat)(ps:List Int)(ls:List Ln)(l:List Of)(N:Int)(vb:Value)(x:Of)(k:Nat)(W:World):Prop:=
 FsM w G M gb base ps ls l N vb x W∧aA1 ps ls l x.ow x.ow 1099511627776 x.lf (agO l x.sl x.bu x.nu x.de)=aA1 ps ls l x.ow x.ow 1099511627776 x.lf ((agO l x.sl x.bu x.nu x.de).drop k)
def FsX(w:World)(ps:List Int)(ls:List Ln)(l:List Of)(x:Of)(c:Code)(W:World):Prop:=
 c=.ret∧∃s n:Int,Below w.heap.size w W∧Blk W (w.heap.size+2) #[.int .u64 s] 44∧Blk W (w.heap.size+3) #[.int .i64 n] 2∧aA1 ps ls l x.ow x.ow 1099511627776 x.lf (agO l x.sl x.bu x.nu x.de)=some (s,n)
theorem fits_FsI{w:World}{G M gb base:Nat}{ps:List Int}{ls:List Ln}{l:List Of}{N:Int}{vb:Value}{x:Of}{B:Nat}(hB:w.heap.size+6≤B)(k:Nat):Fits B (FsI w G M gb base ps ls l N vb x k):=
 ⟨fun W W' h q=>⟨h.1.keep (pAD (S:=fun _=>False) q) (fun j hj=>hj.elim),h.2⟩,fun W lo o o' h hl hg ho=>⟨h.1.keep (aMq W o') (fun j hj=>zQ),h.2⟩⟩
theorem fits_FsX{w:World}{ps:List Int}{ls:List Ln}{l:List Of}{x:Of}{B:Nat}(hB:w.heap.size+6≤B)(c:Code):Fits B (FsX w ps ls l x c):=
 ⟨fun W W' ⟨h1,s,n,h2,h3,h4,h5⟩ q=>⟨h1,s,n,h2.trans (q.mono h2.size),h3.below q h3.lt,h4.below q h4.lt,h5⟩,
  fun W lo o o' ⟨h1,s,n,h2,h3,h4,h5⟩ hl hg ho=>⟨h1,s,n,h2.trans (aFs W o' zQ),h3.turn hg ho o',h4.turn hg ho o',h5⟩⟩
theorem fs_body(HMy:aCk){w:World}{G M gb base:Nat}{ps:List Int}{ls:List Ln}{l:List Of}{N:Int}{vb:Value}{x:Of}{W:World}{b B m0 lo k:Nat}{o:Of}{c0 c1 c7 c8 c9 c10 c11 c12 c13 c14 c15 c16 c17 c18 c19 c20 c21 c22 c23 c24 c25 c26:Value}
  (hI:LInv ps ls)(hJ:BInv l N)(hx:x.Fits)(hM:FsI w G M gb base ps ls l N vb x k W)(ho:(agO l x.sl x.bu x.nu x.de)[k]? = some o)(hb:Blk W b #[.int .u64 o.se,.int .u8 o.ow,.int .u8 o.sl,.int .u8 o.bu,.int .i64 o.lf,.int .i64 o.nu,.int .i64 o.de] 75)(hB:w.heap.size+6≤B):
  Code.wpIn (Fence.wide.inRound lo) m0 Tryz.prog (((Tryz.f242.body).bind aDq).getD .skip) (aR7 B (FsI w G M gb base ps ls l N vb x) (FsX w ps ls l x) (fun k k'=>k'=k+1) k W) ⟨#[c0,c1,(.pointer (some ⟨w.heap.size,0,none⟩)),(.pointer (some ⟨w.heap.size+1,0,none⟩)),(.pointer (some ⟨w.heap.size+2,0,none⟩)),(.pointer (some ⟨w.heap.size+3,0,none⟩)),(.pointer (some ⟨b,0,none⟩)),c7,c8,c9,c10,c11,c12,c13,c14,c15,c16,c17,c18,c19,c20,c21,c22,c23,c24,c25,c26],[]⟩ W:=by
 conv=>arg 4;whnf
 have hk:=(List.getElem?_eq_some_iff.1 ho).1;have hok:(agO l x.sl x.bu x.nu x.de)[k]=o:=(List.getElem?_eq_some_iff.1 ho).2;have hmem:o∈agO l x.sl x.bu x.nu x.de:=by rw[←hok];exact List.getElem_mem hk
 have hse:=hJ.bd o (mem_ag hJ hmem).1;have hn2:=hJ.n2;have CM:=yH (aR1 HMy hM.1.led hI hM.1.book hJ o.se x.ow x.ow 1099511627776 x.lf zQ hx.ow hx.ow (by unfold In64;decide) hx.lf)
 have HD:Hid (aA1 ps ls l x.ow x.ow 1099511627776 x.lf (agO l x.sl x.bu x.nu x.de)=if 0<mayS ps ls l x.ow x.ow 1099511627776 x.lf o.se then some (o.se,mayS ps ls l x.ow x.ow 1099511627776 x.lf o.se)else aA1 ps ls l x.ow x.ow 1099511627776 x.lf ((agO l x.sl x.bu x.nu x.de).drop (k+1))):=yH (by
  rw[hM.2,List.drop_eq_getElem_cons hk,hok];rfl)
 obtain⟨m,hm⟩:∃m,mayS ps ls l x.ow x.ow 1099511627776 x.lf o.se=m:=⟨_,rfl⟩;rw[hm]at CM HD;have HMM:=yH hM.1;obtain⟨v0,hv0⟩:=hM.1.nn;have KN:=yH hv0;have KB:=yH hb;have HBB:=yH hB;have d1:=hM.1.c.cell 1;have d4:=hM.1.c.cell 4;have h0:=hM.1.h.cell 0;have h1:=hM.1.h.cell 1;have o0:=hb.cell 0;simp at d1 d4 h0 h1 o0;clear hk hok hmem hse hn2 hm hI hJ hx hM ho hb hv0 hB HMy
 gi_wp2_with fail
 refine⟨trivial,(fun hh=>xB),(CallsIn.inRound lo (callsIn_wide.2 CM.o)).mono ?_⟩;rintro e W1 ⟨rfl,b1⟩;have H1:=yH (HMM.o.keep (pAD (S:=fun _=>False) b1) (fun j hj=>hj.elim));have KN1:=yB KN b1;have KB1:=yB KB b1;have O1:=yH (pAN (B:=B) (pAD (S:=fun _=>False) b1) (fun _ _ h=>h));clear b1 d1 d4 h0 h1 o0 CM HMM KN KB;have n0:=KN1.o.cell 0;have fz:=KN1.o.frozen 0;have KN2:=yH (KN1.o.set 0 (.int .i64 m));have KB2:=yH (KB1.o.setOther (a:=⟨w.heap.size+3,0,none⟩) (show ¬b=w.heap.size+3 from fun e=>by have h1:=KB1.o;have h2:=KN1.o;subst e;exact absurd rfl (blk_ne h1 h2 zX)) (.int .i64 m));have H2:=yH (H1.o.setN m)
 have O2:Hid (aLd B W (W1.setCell ⟨w.heap.size+3,0,none⟩ (.int .i64 m))):=yH ⟨v6 O1.o.size,fun j hj hs=>by
  rw[Below.heap_setCell _ _ _ _ (by show ¬j=w.heap.size+3;have:=HBB.o;omega)];exact O1.o.same j hj hs⟩
 simp at n0;clear H1 KB1 O1;have kb:=KB2.o.cell 0;have s0:=H2.o.sq.cell 0;have sf:=H2.o.sq.frozen 0;have n2:=KN2.o.cell 0;have n2f:=KN2.o.frozen 0;simp at kb s0 n2
 by_cases hq:0<m
 ·have q1:decide (m > 0)=true:=wK
  rw[if_pos hq]at HD;clear hq
  gi_wp2_with fail
  generalize W1.setCell ⟨w.heap.size+3,0,none⟩ (.int .i64 m)=W2 at *;clear n0 fz q1 KN1
  have END:Hid (aLd B W ((W2.setCell ⟨w.heap.size+2,0,none⟩ (.int .u64 o.se)).setCell ⟨w.heap.size+3,0,none⟩ (.int .i64 m)).drew∧FsX w ps ls l x .ret ((W2.setCell ⟨w.heap.size+2,0,none⟩ (.int .u64 o.se)).setCell ⟨w.heap.size+3,0,none⟩ (.int .i64 m)).drew):=yH (by
   have k:Keep (fun j=>j=w.heap.size+2∨j=w.heap.size+3) W2 ((W2.setCell ⟨w.heap.size+2,0,none⟩ (.int .u64 o.se)).setCell ⟨w.heap.size+3,0,none⟩ (.int .i64 m)).drew:=
    ((Keep.setCell (S:=fun j=>j=w.heap.size+2∨j=w.heap.size+3) (Keep.refl _ _) (p:=⟨w.heap.size+2,0,none⟩) (.inl (.inl rfl)) _).setCell (p:=⟨w.heap.size+3,0,none⟩) (.inl (.inr rfl)) _).drew
   refine⟨⟨Nat.le_trans O2.o.size k.size,fun j hj hs=>?_⟩,rfl,o.se,m,H2.o.below.trans (k.below H2.o.below.size (fun j hj hs=>zQ)),?_,?_,HD.o⟩
   ·rw[k.block j (yM hs O2.o.size) (uV HBB.o)];exact O2.o.same j hj hs
   ·exact(H2.o.sq.set 0 _).setOther (a:=⟨w.heap.size+3,0,none⟩) (show ¬w.heap.size+2=w.heap.size+3 by omega) _
   exact(KN2.o.setOther (a:=⟨w.heap.size+2,0,none⟩) (show ¬w.heap.size+3=w.heap.size+2 by omega) _).set 0 _)
  clear KN2 KB2 H2 O2
  gi_region
  all_goals
   gi_wp2_with fail
   exact END.o
 have q1:decide (m > 0)=false:=wK
 rw[if_neg hq]at HD;clear hq
 gi_wp2_with fail
 exact⟨O2.o,k+1,rfl,H2.o,HD.o⟩
theorem cfirst_any(HMy:aCk){w:World}{G M gb base:Nat}{ps:List Int}{ls:List Ln}{l:List Of}{N:Int}{vb:Value}{x:Of}(hL:LedM w G M ps ls)(hI:LInv ps ls)(hP:PB w base gb l N vb)(hJ:BInv l N)(hx:x.Fits)(hm:mayB x.nu x.de=true):
  Calls Tryz.prog 242 #[.agg #[.int .u64 x.se,.int .u8 x.ow,.int .u8 x.sl,.int .u8 x.bu,.int .i64 x.lf,.int .i64 x.nu,.int .i64 x.de],.agg #[.pointer (some ⟨G,0,none⟩),.pointer (some ⟨gb,0,none⟩)]] w (yR w (.tuple #[.int .u64 ((aA1 ps ls l x.ow x.ow 1099511627776 x.lf (agO l x.sl x.bu x.nu x.de)).getD (0,0)).1,.int .i64 ((aA1 ps ls l x.ow x.ow 1099511627776 x.lf (agO l x.sl x.bu x.nu x.de)).getD (0,0)).2])):=by
 have LT:=And.intro hL.blk.lt (And.intro hL.map.lt (fun b (hb:Foot gb vb b)=>(hP.lt hb).2));have b1:=(Below.refl w.heap.size w).alloc yL (.cells #[.int .u64 x.se,.int .u8 x.ow,.int .u8 x.sl,.int .u8 x.bu,.int .i64 x.lf,.int .i64 x.nu,.int .i64 x.de] 294);have b2:=b1.alloc b1.size (.cells #[.pointer (some ⟨G,0,none⟩),.pointer (some ⟨gb,0,none⟩)] 80);have b3:=b2.alloc b2.size (.cells #[.int .u64 0] 44);have b4:=b3.alloc b3.size (.cells #[.int .i64 0] 2)
 have hM:FsM w G M gb base ps ls l N vb x (((((w.alloc (.cells #[.int .u64 x.se,.int .u8 x.ow,.int .u8 x.sl,.int .u8 x.bu,.int .i64 x.lf,.int .i64 x.nu,.int .i64 x.de] 294)).alloc (.cells #[.pointer (some ⟨G,0,none⟩),.pointer (some ⟨gb,0,none⟩)] 80)).alloc (.cells #[.int .u64 0] 44)).alloc (.cells #[.int .i64 0] 2)).alloc (.cells #[.int .u64 x.se,.int .u8 x.ow,.int .u8 x.sl,.int .u8 x.bu,.int .i64 x.lf,.int .i64 x.nu,.int .i64 x.de] 294) |>.alloc (.cells #[(.pointer (some ⟨gb,0,none⟩))] 78)):=by
  have c1:=(Below.refl ((((w.alloc (.cells #[.int .u64 x.se,.int .u8 x.ow,.int .u8 x.sl,.int .u8 x.bu,.int .i64 x.lf,.int .i64 x.nu,.int .i64 x.de] 294)).alloc (.cells #[.pointer (some ⟨G,0,none⟩),.pointer (some ⟨gb,0,none⟩)] 80)).alloc (.cells #[.int .u64 0] 44)).alloc (.cells #[.int .i64 0] 2)).heap.size ((((w.alloc (.cells #[.int .u64 x.se,.int .u8 x.ow,.int .u8 x.sl,.int .u8 x.bu,.int .i64 x.lf,.int .i64 x.nu,.int .i64 x.de] 294)).alloc (.cells #[.pointer (some ⟨G,0,none⟩),.pointer (some ⟨gb,0,none⟩)] 80)).alloc (.cells #[.int .u64 0] 44)).alloc (.cells #[.int .i64 0] 2))).alloc yL (.cells #[.int .u64 x.se,.int .u8 x.ow,.int .u8 x.sl,.int .u8 x.bu,.int .i64 x.lf,.int .i64 x.nu,.int .i64 x.de] 294);have c2:=c1.alloc c1.size (.cells #[(.pointer (some ⟨gb,0,none⟩))] 78);have b6:=b4.trans (c2.mono b4.size)
  exact⟨b6,(((Blk.new w #[.int .u64 x.se,.int .u8 x.ow,.int .u8 x.sl,.int .u8 x.bu,.int .i64 x.lf,.int .i64 x.nu,.int .i64 x.de] 294).alloc _).alloc _).alloc _ |>.below c2 zU,((pAB (w.alloc (.cells #[.int .u64 x.se,.int .u8 x.ow,.int .u8 x.sl,.int .u8 x.bu,.int .i64 x.lf,.int .i64 x.nu,.int .i64 x.de] 294)) #[.pointer (some ⟨G,0,none⟩),.pointer (some ⟨gb,0,none⟩)] 80 (g:=w.heap.size+1) zV).alloc _).alloc _ |>.below c2 zV,((pAB ((w.alloc (.cells #[.int .u64 x.se,.int .u8 x.ow,.int .u8 x.sl,.int .u8 x.bu,.int .i64 x.lf,.int .i64 x.nu,.int .i64 x.de] 294)).alloc (.cells #[.pointer (some ⟨G,0,none⟩),.pointer (some ⟨gb,0,none⟩)] 80)) #[.int .u64 0] 44 (g:=w.heap.size+2) zV).alloc _).below c2 zV,
   ⟨0,(pAB (((w.alloc (.cells #[.int .u64 x.se,.int .u8 x.ow,.int .u8 x.sl,.int .u8 x.bu,.int .i64 x.lf,.int .i64 x.nu,.int .i64 x.de] 294)).alloc (.cells #[.pointer (some ⟨G,0,none⟩),.pointer (some ⟨gb,0,none⟩)] 80)).alloc (.cells #[.int .u64 0] 44)) #[.int .i64 0] 2 (g:=w.heap.size+3) zV).below c2 zV⟩,hL.below b6,hP.below b6,(pAB ((((w.alloc (.cells #[.int .u64 x.se,.int .u8 x.ow,.int .u8 x.sl,.int .u8 x.bu,.int .i64 x.lf,.int .i64 x.nu,.int .i64 x.de] 294)).alloc (.cells #[.pointer (some ⟨G,0,none⟩),.pointer (some ⟨gb,0,none⟩)] 80)).alloc (.cells #[.int .u64 0] 44)).alloc (.cells #[.int .i64 0] 2)) #[.int .u64 x.se,.int .u8 x.ow,.int .u8 x.sl,.int .u8 x.bu,.int .i64 x.lf,.int .i64 x.nu,.int .i64 x.de] 294 (g:=w.heap.size+4) zV).alloc _,pAB _ _ _ zV,LT⟩
 have KC:=yH ((((Blk.new w #[.int .u64 x.se,.int .u8 x.ow,.int .u8 x.sl,.int .u8 x.bu,.int .i64 x.lf,.int .i64 x.nu,.int .i64 x.de] 294).alloc (.cells #[.pointer (some ⟨G,0,none⟩),.pointer (some ⟨gb,0,none⟩)] 80)).alloc (.cells #[.int .u64 0] 44)).alloc (.cells #[.int .i64 0] 2));have KH:=yH (((pAB (w.alloc (.cells #[.int .u64 x.se,.int .u8 x.ow,.int .u8 x.sl,.int .u8 x.bu,.int .i64 x.lf,.int .i64 x.nu,.int .i64 x.de] 294)) #[.pointer (some ⟨G,0,none⟩),.pointer (some ⟨gb,0,none⟩)] 80 (g:=w.heap.size+1) zV).alloc (.cells #[.int .u64 0] 44)).alloc (.cells #[.int .i64 0] 2));have HSZ:Hid (((((w.alloc (.cells #[.int .u64 x.se,.int .u8 x.ow,.int .u8 x.sl,.int .u8 x.bu,.int .i64 x.lf,.int .i64 x.nu,.int .i64 x.de] 294)).alloc (.cells #[.pointer (some ⟨G,0,none⟩),.pointer (some ⟨gb,0,none⟩)] 80)).alloc (.cells #[.int .u64 0] 44)).alloc (.cells #[.int .i64 0] 2)).heap.size=w.heap.size+4):=yH zV;have HM:=yH hM;have II:=yH hI;have JJ:=yH hJ;have HX:=yH hx;have HMB:=yH hm;obtain⟨R,hR⟩:∃R,(aA1 ps ls l x.ow x.ow 1099511627776 x.lf (agO l x.sl x.bu x.nu x.de)).getD (0,0)=R:=⟨_,rfl⟩;have HR:=yH hR;rw[hR];clear LT b1 b2 b3 b4 hM hL hI hP hJ hx hm hR;generalize hW:((((w.alloc (.cells #[.int .u64 x.se,.int .u8 x.ow,.int .u8 x.sl,.int .u8 x.bu,.int .i64 x.lf,.int .i64 x.nu,.int .i64 x.de] 294)).alloc (.cells #[.pointer (some ⟨G,0,none⟩),.pointer (some ⟨gb,0,none⟩)] 80)).alloc (.cells #[.int .u64 0] 44)).alloc (.cells #[.int .i64 0] 2))=W at *;have HW:=yH hW;clear hW;have d0:=KC.o.cell 0;have d1:=KC.o.cell 1;have d2:=KC.o.cell 2;have d3:=KC.o.cell 3;have d4:=KC.o.cell 4;have d5:=KC.o.cell 5;have d6:=KC.o.cell 6;have h0:=KH.o.cell 0;have h1:=KH.o.cell 1;simp at d0 d1 d2 d3 d4 d5 d6 h0 h1;refine(callsIn_wide (n:=0)).1 ?_;refine callsIn_of_wp_marks Tryz.func242 rfl trivial ?_ rfl;refine wpIn_wide.2 ?_;simp only[Tryz.ntmps242,List.size_toArray,List.length_cons,List.length_nil,Nat.reduceAdd,Nat.reduceSub,Array.replicate_succ,Array.replicate_zero,List.push_toArray,List.append_toArray,List.nil_append,List.cons_append]
 go_upto_region 1 with fail
 rw[HW.o];go_wp2_with fail;refine(aUh x _ _).mono ?_;rintro e w6 ⟨rfl,rfl⟩;rw[HSZ.o];clear d0 d1 d2 d3 d4 d5 d6 h0 h1 KC KH;have X6:Hid (((W.alloc (.cells #[.int .u64 x.se,.int .u8 x.ow,.int .u8 x.sl,.int .u8 x.bu,.int .i64 x.lf,.int .i64 x.nu,.int .i64 x.de] 294)).alloc (.cells #[(.pointer (some ⟨gb,0,none⟩))] 78)).heap.size=w.heap.size+6):=yH (by have:=HSZ.o;simp;omega);go_wp2_with fail;generalize hX:(W.alloc (.cells #[.int .u64 x.se,.int .u8 x.ow,.int .u8 x.sl,.int .u8 x.bu,.int .i64 x.lf,.int .i64 x.nu,.int .i64 x.de] 294)).alloc (.cells #[(.pointer (some ⟨gb,0,none⟩))] 78)=X at *;clear hX
 refine wp_roundsK (gf:=304) (lb:=#[(.pointer (some ⟨w.heap.size+4,0,none⟩)),(.pointer (some ⟨w.heap.size+5,0,none⟩))]) rfl (enters_of Tryz.func304 zW rfl)
  (FsI w G M gb base ps ls l N vb x) (fun k vs _=>∃o:Of,(agO l x.sl x.bu x.nu x.de)[k]? = some o∧vs=#[.agg #[.int .u64 o.se,.int .u8 o.ow,.int .u8 o.sl,.int .u8 o.bu,.int .i64 o.lf,.int .i64 o.nu,.int .i64 o.de]]) (FsX w ps ls l x) (fun k=>(agO l x.sl x.bu x.nu x.de).length≤k) (fun k k'=>k'=k+1)
  (fun k vs a' W'=>∃(o:Of) (b:Nat),(agO l x.sl x.bu x.nu x.de)[k]? = some o∧Blk W' b #[.int .u64 o.se,.int .u8 o.ow,.int .u8 o.sl,.int .u8 o.bu,.int .i64 o.lf,.int .i64 o.nu,.int .i64 o.de] 75∧a'=⟨#[.agg #[.int .u64 x.se,.int .u8 x.ow,.int .u8 x.sl,.int .u8 x.bu,.int .i64 x.lf,.int .i64 x.nu,.int .i64 x.de],.agg #[.pointer (some ⟨G,0,none⟩),.pointer (some ⟨gb,0,none⟩)],(.pointer (some ⟨w.heap.size,0,none⟩)),(.pointer (some ⟨w.heap.size+1,0,none⟩)),(.pointer (some ⟨w.heap.size+2,0,none⟩)),(.pointer (some ⟨w.heap.size+3,0,none⟩)),(.pointer (some ⟨b,0,none⟩)),.agg #[.int .u64 x.se,.int .u8 x.ow,.int .u8 x.sl,.int .u8 x.bu,.int .i64 x.lf,.int .i64 x.nu,.int .i64 x.de],(.pointer (some ⟨w.heap.size+1,1,none⟩)),(.pointer (some ⟨gb,0,none⟩)),.func (.func 304) #[] #[(.pointer (some ⟨w.heap.size+4,0,none⟩)),(.pointer (some ⟨w.heap.size+5,0,none⟩))],.agg #[.int .u64 o.se,.int .u8 o.ow,.int .u8 o.sl,.int .u8 o.bu,.int .i64 o.lf,.int .i64 o.nu,.int .i64 o.de],undef,undef,undef,undef,undef,undef,undef,undef,undef,undef,undef,undef,undef,undef,undef],[]⟩)
  (fun k=>fits_FsI (uX X6.o) k) (fun c=>fits_FsX (uX X6.o) c)
  (fun k vs a=>⟨fun W1 W2 ⟨o,b,h1,h2,h3⟩ q=>⟨o,b,h1,h2.below q h2.lt,h3⟩,fun W1 lo ob ob' ⟨o,b,h1,h2,h3⟩ _ hg ho=>⟨o,b,h1,h2.turn hg ho ob',h3⟩⟩)
  (fun k vs W' ⟨o,_,h⟩=>by rw[h];rfl) 0
  (aUi x HX.o HMB.o JJ.o (fun k W' h=>⟨h.1.book,h.1.c4,h.1.c5⟩)) ⟨HM.o,by rw[List.drop_zero]⟩ ?assign ?body ?done ?stop
 case assign=>
  rintro m lo k vs W' K _ ⟨o,ho,rfl⟩ hK
  gi_wp2_with fail
  exact hK _ _ (yZ.alloc yL _) ⟨o,_,ho,Blk.new _ _ _,rfl⟩
 case body=>
  rintro m0 lo k vs a' W' hW' hM ⟨o,b,ho,hb,rfl⟩;exact fs_body HMy II.o JJ.o HX.o hM ho hb (uX X6.o)
 case done=>
  intro D k W' hD hS hM hK;obtain rfl:(0,0)=R:=by rw[←HR.o,hM.2,List.drop_eq_nil_of_le hS];rfl
  obtain⟨v,hv⟩:=hM.1.nn;have s0:=hM.1.sq.cell 0;have sf:=hM.1.sq.frozen 0;have n0:=hv.cell 0;have nf:=hv.frozen 0;simp at s0 n0;have DD:=yH (show w.heap.size+6≤D by have:=X6.o;omega);have HMM:=yH hM.1;have KN:=yH hv;have DK:=yH hK;clear hD hS hM hK hv;go_wp2_with fail;obtain⟨W9,h9⟩:∃W9,W9=(W'.setCell ⟨w.heap.size+2,0,none⟩ (.int .u64 0)).setCell ⟨w.heap.size+3,0,none⟩ (.int .i64 0):=⟨_,rfl⟩
  have k:Keep (fun j=>j=w.heap.size+2∨j=w.heap.size+3) W' W9:=by
   rw[h9];exact(Keep.setCell (S:=fun j=>j=w.heap.size+2∨j=w.heap.size+3) (Keep.refl _ _) (p:=⟨w.heap.size+2,0,none⟩) (.inl (.inl rfl)) _).setCell (p:=⟨w.heap.size+3,0,none⟩) (.inl (.inr rfl)) _
  have e1:W9.heap[D]? = some (.deferred (some [])):=(k.block D (Array.getElem?_eq_some_iff.1 DK.o).1 (uV DD.o)).trans DK.o
  have e2:(W9.putObj D (.deferred none)).cell? ⟨w.heap.size+2,0,none⟩=some (.int .u64 0):=by
   rw[World.cell?_of_block (w:=W9) (World.putObj_heap_other (by show ¬w.heap.size+2=D;have:=DD.o;omega)),h9];have:=((HMM.o.sq.set 0 (.int .u64 0)).setOther (a:=⟨w.heap.size+3,0,none⟩) (show ¬w.heap.size+2=w.heap.size+3 by omega) (.int .i64 0)).cell 0;simpa using this
  have e3:(W9.putObj D (.deferred none)).cell? ⟨w.heap.size+3,0,none⟩=some (.int .i64 0):=by
   rw[World.cell?_of_block (w:=W9) (World.putObj_heap_other (by show ¬w.heap.size+3=D;have:=DD.o;omega)),h9];have:=((KN.o.setOther (a:=⟨w.heap.size+2,0,none⟩) (show ¬w.heap.size+3=w.heap.size+2 by omega) (.int .u64 0)).set 0 (.int .i64 0)).cell 0;simpa using this
  have e4:Below w.heap.size w (W9.putObj D (.deferred none)):=(HMM.o.below.trans (k.below HMM.o.below.size (fun j hj hs=>zQ))).trans (aFs _ _ (uV DD.o));rw[←h9];refine⟨zV,.inl ⟨_,_,rfl,run_takeDeferred e1,?_⟩⟩;exact⟨_,by simp[results,Tryz.results242,go_sem,e2,e3],rfl,e4⟩
 rintro D c W' hD ⟨rfl,s,n,hB,hs,hn,hf⟩ hK;obtain rfl:(s,n)=R:=by rw[←HR.o,hf];rfl
 have DD:=yH (show w.heap.size+6≤D by have:=X6.o;omega);have DK:=yH hK;have HB:=yH hB;have KS:=yH hs;have KN:=yH hn;clear hD hK hB hs hn hf;go_wp2_with fail
 have e2:(W'.putObj D (.deferred none)).cell? ⟨w.heap.size+2,0,none⟩=some (.int .u64 s):=by
  rw[World.cell?_of_block (w:=W') (World.putObj_heap_other (by show ¬w.heap.size+2=D;have:=DD.o;omega))];have:=KS.o.cell 0;simpa using this
 have e3:(W'.putObj D (.deferred none)).cell? ⟨w.heap.size+3,0,none⟩=some (.int .i64 n):=by
  rw[World.cell?_of_block (w:=W') (World.putObj_heap_other (by show ¬w.heap.size+3=D;have:=DD.o;omega))];have:=KN.o.cell 0;simpa using this
 have e4:Below w.heap.size w (W'.putObj D (.deferred none)):=HB.o.trans (aFs _ _ (uV DD.o));refine⟨zV,.inl ⟨_,_,rfl,run_takeDeferred DK.o,?_⟩⟩;exact⟨_,by simp[results,Tryz.results242,go_sem,e2,e3],rfl,e4⟩
end Go.Proofs.YtngnfdnfpiiclaaGreat
namespace Go.Proofs.YtngnfdnfpiiclaaGreat
open Go.RowKit
def signed(neg:Bool)(x:Nat):Int:=if neg then -(x:Int)else x
def Lst(k:IntKind)(w:World)(a:Option Addr)(cap:Nat)(zs:List Int):Prop:=
 (zs=[]∧(a=none→cap=0))∨∃b off,a=some ⟨b,off,none⟩∧zs≠[]∧b<w.heap.size∧∀i (h:i<zs.length),w.cell? ⟨b,off+i,none⟩=some (.int k zs[i])
def Fl.vals(tk pt:Int)(f:Fl):List Value:=[.int .u64 f.se,.int .u8 tk,.int .u8 pt,.int .i64 f.got,.int .i64 f.gi]
def aCi(tk pt:Int)(fs:List Fl):List Value:=fs.flatMap (Fl.vals tk pt)
theorem aNk(tk pt:Int)(fs:List Fl):(aCi tk pt fs).length=fs.length*5:=aF0 _ 5 (fun _=>rfl) fs
theorem aNl(tk pt:Int)(fs:List Fl)(i j:Nat)(hj:j<5)(h:i<fs.length):(aCi tk pt fs)[i*5+j]? = (fs[i].vals tk pt)[j]? := by
 unfold aCi;rw[aFa _ 5 (fun _=>rfl) fs i j hj,List.getElem?_eq_getElem h];rfl
theorem aLf(tk pt:Int)(fs:List Fl)(f:Fl):aCi tk pt (fs++[f])=aCi tk pt fs++f.vals tk pt:=by
 unfold aCi;rw[List.flatMap_append];simp
theorem own_cell5{w:World}{base n cap:Nat}{ao:Option Addr}{e:TypeId}{tk pt:Int}{fs:List Fl}(h:w.ownsRow base e 5 (.slice ao n cap) n (aCi tk pt fs)){k:Nat}(hk:k<fs.length):
  ∃b,ao=some ⟨b,0,none⟩∧∀w',Below w.heap.size w w'→b<w'.heap.size∧∀j,j<5→w'.cell? ⟨b,k*5+j,none⟩=(fs[k].vals tk pt)[j]? := by
 obtain⟨hl,h2⟩:=h;have hz:=aNk tk pt fs;rcases h2 with⟨h2,h3⟩|⟨g,cap',cur,hv,hge,hg,hnc,hcm,hsz,htk⟩
 ·have:=hl;rw[h3]at this;omega
 cases hv
 have hB:Blk w g cur e:=hg;refine⟨g,rfl,fun w' k'=>⟨(hB.below k' hB.lt).lt,fun j hj=>?_⟩⟩;rw[(hB.below k' hB.lt).cell];have e:=aNl tk pt fs k j hj hk;rw[←htk,List.getElem?_take_of_lt zQ]at e;rw[Array.getElem?_toList]at e;exact e
theorem info_i64:(Tryz.prog.info? 2).map (fun i=>(i.zero,i.size,i.bytes))=some (some (.int .i64 0),1,8):=zW
theorem own_lst{w:World}{base n cap:Nat}{ao:Option Addr}{e:TypeId}{zs:List Int}(h:w.ownsRow base e 1 (.slice ao n cap) n (zs.map (.int .i64)))(hn:n=zs.length):Lst .i64 w ao cap zs:=by
 obtain⟨hl,h2⟩:=h;rcases h2 with⟨h2,h3⟩|⟨g,cap',cur,hv,hge,hg,hnc,hcm,hsz,htk⟩
 ·cases h2
  refine .inl ⟨List.eq_nil_of_length_eq_zero zQ,fun _=>rfl⟩
 cases hv
 have hB:Blk w g cur e:=hg
 by_cases hz:zs=[]
 ·exact .inl ⟨hz,fun h=>y6⟩
 refine .inr ⟨g,0,rfl,hz,hB.lt,fun i hi=>?_⟩;rw[Nat.zero_add,hB.cell];have e:(zs.map (Value.int .i64))[i]? = some (.int .i64 zs[i]):=by rw[List.getElem?_map,List.getElem?_eq_getElem hi];rfl
 rw[←htk,List.getElem?_take_of_lt zQ,Array.getElem?_toList]at e;exact e
theorem aOy{w:World}{base:Nat}{v:Value}{n:Nat}{xs:List Value}(h:w.ownsRow base 241 5 v n xs):
  Calls Tryz.prog 236 #[v] w (aHn w base 241 5 n v xs):=by
 rcases h.2 with⟨rfl,h0⟩|⟨g,cap,cur,rfl,hbase,hb,h1,h2,h3,h4⟩
 ·subst h0;have hr:=aBi (P:=Tryz.prog) w 235 241 5 Tryz.underlying235 (Tryz.sizeOf241 w);have hx:=h.1;have hx2:=yH hx;clear h hx;go_enter Tryz.func236,Tryz.ntmps236;go_wp2;refine bodyPost_ret (v:=.slice none 0 0) (by simp[results,Tryz.results236,go_sem]) rfl ?_;exact⟨_,rfl,⟨hx2.out,.inl ⟨rfl,rfl⟩⟩,rfl,rfl⟩
 have hr:=aCh (P:=Tryz.prog) w 235 241 5 Tryz.underlying235 (Tryz.sizeOf241 w) g n cap h1;have HR:=yH (show aBk w base 241 5 (.slice (some ⟨g,0,none⟩) n n) n xs from⟨h.1,.inr ⟨g,cur,rfl,hbase,hb,zQ,zQ,h4⟩⟩);clear h hb h4 h3;unfold maxLen at h2;go_enter Tryz.func236,Tryz.ntmps236;go_wp2;refine bodyPost_ret (v:=.slice (some ⟨g,0,none⟩) n n) (by simp[results,Tryz.results236,go_sem]) rfl ?_;exact⟨_,rfl,HR.o,rfl,rfl⟩
def SumNil(w:World)(i:Value)(wr:World):Prop:=i=.int .i64 0∧Below w.heap.size w wr∧Blk wr w.heap.size #[.int .u64 0,.int .u64 0] 340
theorem psum_nil(a:Option Addr)(cap:Nat)(w:World):Calls Tryz.prog 199 #[.slice a 0 cap] w (yR w (ans 0)):=by
 go_enter Tryz.func199,Tryz.ntmps199;go_wp2
 go_loopw [9] (SumNil w) (fun _ _=>0)
 case atStart=>exact⟨rfl,yZ.alloc yL _,Blk.new _ _ _⟩
 obtain⟨rfl,hb,hblk⟩:=hrel;have hg:=hblk.lt;have hc0:wr.cell? ⟨w.heap.size,0,none⟩=some (.int .u64 0):=hblk.cell 0;have hc1:wr.cell? ⟨w.heap.size,1,none⟩=some (.int .u64 0):=hblk.cell 1;have hn:=aHq 0 wr zQ zQ;simp only[aCj,show hi64 0=0 by decide,show lo64 0=0 by decide]at hn;go_wp2_with fail;refine hn.mono ?_;rintro e w4 ⟨rfl,b4⟩;unfold ans;go_wp2;go_ret2;exact⟨rfl,hb.trans (b4.mono (Nat.le_of_lt hg))⟩
theorem psum_lst(a:Option Addr)(cap:Nat)(zs:List Int)(w:World)(hz:∀z∈zs,In64 z)(hl:zs.length≤140737488355328)(ha:Lst .i64 w a cap zs):
  Calls Tryz.prog 199 #[.slice a zs.length cap] w (yR w (ans zs.sum)):=by
 rcases ha with⟨rfl,_⟩|⟨b,off,rfl,_,hlt,hc⟩
 ·exact psum_nil a cap w
 exact sum_any b off cap zs w hz hl hlt hc
def FillsIn(w:World)(ao:Option Addr)(tk pt:Int)(fs:List Fl):Prop:=
 ∀k (h:k<fs.length),∃b,ao=some ⟨b,0,none⟩∧∀w',Below w.heap.size w w'→b<w'.heap.size∧∀j,j<5→w'.cell? ⟨b,k*5+j,none⟩=(fs[k].vals tk pt)[j]?
def PGvAt(W:World)(fs:List Fl)(v i:Value)(wr:World):Prop:=
 ∃k:Nat,k≤fs.length∧i=.int .i64 k∧wr.ownsRow W.heap.size 2 1 v k (((fs.take k).map Fl.gi).map (.int .i64))∧Below W.heap.size W wr
theorem aSe{w:World}{ao:Option Addr}{cap:Nat}{tk pt:Int}{fs:List Fl}(hv:FillsIn w ao tk pt fs)(h64:∀f∈fs,In64 f.gi)(hlen:fs.length≤1000)(hc1:fs.length≤cap)(hc2:cap≤maxLen):
  Calls Tryz.prog 155 #[.slice ao fs.length cap] w (yR w (.int .i64 (okN (fs.map Fl.gi).sum))):=by
 have HV:=yH hv;have H64:=yH h64;unfold maxLen at hc2;clear hv h64;go_enter Tryz.func155,Tryz.ntmps155;go_wp2_with fail
 go_loopw [3,5,10] (fun v _ i wr=>PGvAt w fs v i wr) (fun _ _ i _=>fs.length - (intOf i).toNat)
 case atStart=>exact⟨0,zQ,rfl,World.ownsRow_nil w _ _ _,yZ⟩
 obtain⟨k,hk,rfl,ho,hb⟩:=hrel
 by_cases hkl:k<fs.length
 ·have hki:(k:Int)<(fs.length:Int):=zQ
  have hk0:(0:Int)≤(k:Int):=zQ
  obtain⟨b,hbb,hc⟩:=HV.o k hkl;subst hbb;obtain⟨hbl,hcj⟩:=hc wr hb;have c0:=hcj 0 zQ;have c1:=hcj 1 zQ;have c2:=hcj 2 zQ;have c3:=hcj 3 zQ;have c4:=hcj 4 zQ
  have HT:Hid (((fs.take (k+1)).map Fl.gi).map (Value.int .i64)=((fs.take k).map Fl.gi).map (.int .i64)++[.int .i64 fs[k].gi]):=yH (by
   rw[List.take_succ_eq_append_getElem hkl,List.map_append,List.map_append];rfl)
  simp only[Fl.vals,List.getElem?_cons_zero,List.getElem?_cons_succ]at c0 c1 c2 c3 c4;have OO:=yH ho;have BB:=yH hb;have HK:=yH hkl;clear ho hb hc hcj;generalize fs[k]=f at *;obtain⟨se,got,x⟩:=f;dsimp only at c0 c1 c2 c3 c4 HT;clear hkl;rw[Nat.add_zero]at c0;go_wp2_with (at_builtin;refine aA2 _ rfl (.tmp 14) (.tmp 17) 215 2 rfl Tryz.underlying215 info_i64 rfl zX zX w.heap.size _ k _ rfl ((OO.o.alloc _).alloc _) (wr.heap.size+1) 1 [.int .i64 x] rfl rfl (pAB _ _ _ zV) zK zQ zB ?_);intro v2 w2 ho2 hg2;have HO2:=yH (show w2.ownsRow w.heap.size 2 1 v2 (k+1) (((fs.take (k+1)).map Fl.gi).map (.int .i64))from by rw[HT.o];simpa [List.map_take]using ho2);have BB2:=yH (aGf (BB.o.alloc BB.o.size _) zB hg2 (fun b hb=>(aAf OO.o hb).1));clear ho2 hg2;go_wp2_with fail;exact⟨⟨k+1,uV HK.o,by go_num,HO2.o,BB2.o⟩,by simp[intOf];have:=HK.o;omega⟩
 have hkn:k=fs.length:=zQ
 subst hkn;rw[List.take_length]at ho;obtain⟨a2,cap2,rfl,d1,d2,_,_⟩:=aAh ho;have CS:=yH (psum_lst a2 cap2 (fs.map Fl.gi) wr (by intro z hz;obtain⟨f,hf,rfl⟩:=List.mem_map.1 hz;exact H64.o f hf) zU (own_lst ho zV));rw[List.length_map]at CS;unfold ans at CS;have BB:=yH hb;clear hb ho;go_wp2_with fail;refine CS.o.mono ?_;rintro e w2 ⟨rfl,b2⟩;have B2:=yT BB b2;clear b2;go_wp2_with fail;go_ret;exact⟨rfl,B2.o⟩
theorem pgiven_any{w:World}{base:Nat}{tk pt:Int}{fs:List Fl}{v:Value}(hv:w.ownsRow base 241 5 v fs.length (aCi tk pt fs))(h64:∀f∈fs,In64 f.gi)(hlen:fs.length≤1000):
  Calls Tryz.prog 155 #[v] w (yR w (.int .i64 (okN (fs.map Fl.gi).sum))):=by
 obtain⟨ao,cap,rfl,hc1,hc2,hc3,hc4⟩:=aAh hv;exact aSe (fun k hk=>own_cell5 hv hk) h64 hlen hc1 hc2
theorem aNm{w:World}{base:Nat}{ao:Option Addr}{n cap:Nat}{e:TypeId}{tk pt:Int}{fs:List Fl}(h:aBk w base e 5 (.slice ao n cap) n (aCi tk pt fs)):FillsIn w ao tk pt fs:=by
 intro k hk;have hz:=aNk tk pt fs;obtain⟨ao',cap',hv,_,_,hl,h4⟩:=h.look
 cases hv
 obtain⟨b,rfl,_,hb,hc,_⟩:=h4 zQ;refine⟨b,rfl,fun w' q=>⟨yM hb q.size,fun j hj=>?_⟩⟩;rw[q.cell (p:=⟨b,k*5+j,none⟩) hb,hc _ zQ,aNl tk pt fs k j hj hk]
theorem info_flp12:(Tryz.prog.info? 241).map (fun i=>(i.zero,i.size,i.bytes))=some (some (.agg #[.int .u64 0,.int .u8 0,.int .u8 0,.int .i64 0,.int .i64 0]),5,32):=zW
def slN:Value→Nat
 | .slice _ n _=>n
 | _=>0
def CfAt(W:World)(ch base s1 G M gb:Nat)(ps:List Int)(ls0:List Ln)(l0:List Of)(N:Int)(x:Of)(av:Value)(wr:World):Prop:=
 ∃(σ:SwS) (vb:Value),Blk wr ch #[.int .u64 x.se,.int .u8 x.ow,.int .u8 x.sl,.int .u8 x.bu,.int .i64 σ.n,.int .i64 x.nu,.int .i64 x.de] 294∧LedM wr G M ps σ.ls∧PB wr base gb σ.l N vb∧(∀b,vb.ownBlock=some b→b<s1∨W.heap.size≤b)∧wr.ownsRow W.heap.size 241 5 av σ.fs.length (aCi x.ow x.ow σ.fs)∧aE6 ps ls0 l0 N x.ow x.sl x.bu x.nu x.de x.lf σ∧
  Keep (fun k=>k=ch∨(base≤k∧k<s1)) W wr∧Hid (aB5 ps x.ow x.sl x.bu x.nu x.de 64 ⟨ls0,l0,[],x.lf⟩=aB5 ps x.ow x.sl x.bu x.nu x.de (64 - σ.fs.length) σ)
def PCf(w:World)(ch base G M gb:Nat)(ps:List Int)(ls:List Ln)(l:List Of)(N:Int)(x:Of)(e:Ending)(w':World):Prop:=
 ((aB5 ps x.ow x.sl x.bu x.nu x.de 64 ⟨ls,l,[],x.lf⟩).1=13∧e=.returned (.tuple #[.slice none 0 0,.int .i64 13])∧Keep (fun k=>k=ch∨base≤k) w w')∨
 (∃(vb:Value) (a:Option Addr) (c:Nat) (σ:SwS),aB5 ps x.ow x.sl x.bu x.nu x.de 64 ⟨ls,l,[],x.lf⟩=(0,σ)∧e=.returned (.tuple #[.slice a σ.fs.length c,.int .i64 0])∧Blk w' ch #[.int .u64 x.se,.int .u8 x.ow,.int .u8 x.sl,.int .u8 x.bu,.int .i64 σ.n,.int .i64 x.nu,.int .i64 x.de] 294∧LedM w' G M ps σ.ls∧PB w' base gb σ.l N vb∧
  aBk w' w.heap.size 241 5 (.slice a σ.fs.length c) σ.fs.length (aCi x.ow x.ow σ.fs)∧Keep (fun k=>k=ch∨base≤k) w w')
theorem aQc{ps:List Int}{ls0:List Ln}{l0:List Of}{N ow sl bu nu de n0:Int}{σ:SwS}(h:aE6 ps ls0 l0 N ow sl bu nu de n0 σ)(fuel:Nat)(hf:aA1 ps σ.ls σ.l ow ow 1099511627776 σ.n (agO σ.l sl bu nu de)=none):aB5 ps ow sl bu nu de fuel σ=(0,σ):=by
 by_cases hn:σ.n≤0
 ·exact aIx hn
 exact aIy hn hf
def DoT(w1:World)(base G M gb:Nat)(ps:List Int)(ls:List Ln)(l:List Of)(N:Int)(vb:Value)(w':World):Prop:=∃vb',LedM w' G M ps ls∧PB w' base gb l N vb'∧aEj w1 vb vb'
def DoI(w1:World)(base G M gb:Nat)(ps:List Int)(ls:List Ln)(l:List Of)(N:Int)(vb:Value)(xc:Array Value)(g:Nat)(D:Nat→Bool)(w':World):Prop:=
 (D 11=false→Below w1.heap.size w1 w')∧(D 11=true→DoT w1 base G M gb ps ls l N vb w'∧Keep (fun k=>k=G∨k=M∨Foot gb vb k) w1 w')∧w1.heap.size≤w'.heap.size∧
  (D 15=true→w1.heap.size≤g∧(D 16=false→Blk w' g #[.int .u64 0,.int .u8 0,.int .u8 0,.int .i64 0,.int .i64 0] 241)∧(D 16=true→Blk w' g xc 241))
section
variable{w1 w' w'':World}{base G M gb g:Nat}{ps:List Int}{ls:List Ln}{l:List Of}{N:Int}{vb:Value}{xc:Array Value}{D:Nat→Bool}
theorem DoI.start:DoI w1 base G M gb ps ls l N vb xc 0 (fun _=>false) w1.drew:=⟨fun _=>yZ.drew,fun h=>(Bool.false_ne_true h).elim,Nat.le_refl _,fun h=>(Bool.false_ne_true h).elim⟩
theorem DoI.keep(k:Nat)(h:DoI w1 base G M gb ps ls l N vb xc g D w')(hk:(k==11 || k==15 || k==16)=false):DoI w1 base G M gb ps ls l N vb xc g (ins k D) w':=by
 simp only[Bool.or_eq_false_iff,beq_eq_false_iff_ne]at hk;unfold DoI at h ⊢;rw[show ins k D 11=D 11 by simp[ins];omega,show ins k D 15=D 15 by simp[ins];omega,show ins k D 16=D 16 by simp[ins];omega];exact h
theorem DoI.lay(h:DoI w1 base G M gb ps ls l N vb xc g D w')(h16:D 16=false):DoI w1 base G M gb ps ls l N vb xc w'.heap.size (ins 15 D) (w'.alloc (.cells #[.int .u64 0,.int .u8 0,.int .u8 0,.int .i64 0,.int .i64 0] 241)):=by
 have b:=(Below.refl w'.heap.size w').alloc yL (.cells #[.int .u64 0,.int .u8 0,.int .u8 0,.int .i64 0,.int .i64 0] 241);obtain⟨a1,a2,a3,_⟩:=h;refine⟨fun q=>?_,fun q=>?_,Nat.le_trans a3 b.size,fun _=>⟨a3,fun _=>Blk.new _ _ _,fun q=>?_⟩⟩
 ·exact(a1 (by simpa [ins]using q)).trans (b.mono a3)
 ·obtain⟨⟨vb',c1,c2,c3⟩,c4⟩:=a2 (by simpa [ins]using q);exact⟨⟨vb',c1.below b,c2.below b,c3⟩,c4.trans (pAD b)⟩
 rw[show ins 15 D 16=D 16 by simp[ins],h16]at q
 cases q
theorem DoI.call(h:DoI w1 base G M gb ps ls l N vb xc g D w')(h11:D 11=false)(h16:D 16=false)(hlt:∀k,(k=G∨k=M∨Foot gb vb k)→k<w1.heap.size)(hT:DoT w1 base G M gb ps ls l N vb w'')(hk:Keep (fun k=>k=G∨k=M∨Foot gb vb k) w' w''):
  DoI w1 base G M gb ps ls l N vb xc g (ins 11 D) w'':=by
 obtain⟨a1,_,a3,a4⟩:=h;refine⟨fun q=>?_,fun _=>⟨hT,(pAD (a1 h11)).trans hk⟩,Nat.le_trans a3 hk.size,fun q=>?_⟩
 ·simp[ins]at q
 obtain⟨c1,c2,_⟩:=a4 (by simpa [ins]using q);refine⟨c1,fun _=>(c2 h16).keep hk (fun e=>uV (hlt _ e)),fun q2=>?_⟩;rw[show ins 11 D 16=D 16 by simp[ins],h16]at q2
 cases q2
theorem DoI.fill(h:DoI w1 base G M gb ps ls l N vb xc g D w')(h11:D 11=true)(h15:D 15=true)(h16:D 16=false)(hlt:∀k,(k=G∨k=M∨Foot gb vb k)→k<w1.heap.size):DoI w1 base G M gb ps ls l N vb xc g (ins 16 D) (w'.setRow g xc):=by
 obtain⟨_,a2,a3,a4⟩:=h;obtain⟨⟨vb',c1,c2,c3⟩,c4⟩:=a2 h11;obtain⟨d1,d2,_⟩:=a4 h15;have hb:=d2 h16;have kk:=aAc (w:=w') g xc;refine⟨fun q=>?_,fun _=>⟨⟨vb',c1.keep kk (fun e=>by have:=hlt G (.inl rfl);omega) (fun e=>by have:=hlt M (.inr (.inl rfl));omega),c2.keep kk (fun e=>by have:=hlt gb (.inr (.inr (.inl rfl)));omega) (fun b hb'=>aB3 c2.row hb zX b hb'),c3⟩,c4.trans_new kk (fun j hj e=>zQ)⟩,Nat.le_trans a3 kk.size,fun _=>⟨d1,fun q=>?_,fun _=>setRow_heap _ g _ _ _ (0,0) hb⟩⟩
 ·rw[show ins 16 D 11=D 11 by simp[ins],h11]at q
  cases q
 simp[ins]at q
end
theorem cfill_any(HMy:aCk)(HD:aD4){w:World}{ch base G M gb:Nat}{ps:List Int}{ls:List Ln}{l:List Of}{N:Int}{vb:Value}(hL:LedM w G M ps ls)(hI:LInv ps ls)(hP:PB w base gb l N vb)(hJ:BInv l N)(hG:base≤G)(hM:base≤M)(hb:base≤w.heap.size)
  (x:Of)(hx:x.Fits)(hm:mayB x.nu x.de=true)(hn:1≤x.lf∧x.lf≤1099511627776)(hc:Blk w ch #[.int .u64 x.se,.int .u8 x.ow,.int .u8 x.sl,.int .u8 x.bu,.int .i64 x.lf,.int .i64 x.nu,.int .i64 x.de] 294)(hcb:ch<base):
  Calls Tryz.prog 201 #[(.pointer (some ⟨ch,0,none⟩)),.agg #[.pointer (some ⟨G,0,none⟩),.pointer (some ⟨gb,0,none⟩)],.int .i64 64] w (PCf w ch base G M gb ps ls l N x):=by
 have b1:=(Below.refl w.heap.size w).alloc yL (.cells #[.pointer (some ⟨G,0,none⟩),.pointer (some ⟨gb,0,none⟩)] 80);have KH:=yH (Blk.new w #[.pointer (some ⟨G,0,none⟩),.pointer (some ⟨gb,0,none⟩)] 80);have HL:=yH (hL.below b1);have HP:=yH (hP.below b1);have HCh:=yH (hc.below b1 hc.lt);have BW:=yH b1;have GE:=yH (show base≤G∧base≤M∧base≤w.heap.size∧G<w.heap.size∧M<w.heap.size∧gb<w.heap.size∧base≤gb∧(∀b,vb.ownBlock=some b→b<w.heap.size)∧ch<base from⟨hG,hM,hb,hL.blk.lt,hL.map.lt,hP.blk.lt,hP.ge,fun b hb=>(hP.lt (.inr hb)).2,hcb⟩);have II:=yH hI;have JJ:=yH hJ;have HX:=yH hx;have HN:=yH hn;have HMB:=yH hm;have HWS:Hid ((w.alloc (.cells #[.pointer (some ⟨G,0,none⟩),.pointer (some ⟨gb,0,none⟩)] 80)).heap.size=w.heap.size+1):=yH zV;clear b1 hL hI hP hJ hG hM hb hx hm hn hc hcb;generalize hW:w.alloc (.cells #[.pointer (some ⟨G,0,none⟩),.pointer (some ⟨gb,0,none⟩)] 80)=W at *;have HW:=yH hW;clear hW;go_enter Tryz.func201,Tryz.ntmps201
 go_upto_region 1 with fail
 rw[HW.o]
 go_loopw [6,8,9,10,11] (fun av _ _ _ _ wr=>CfAt W ch base w.heap.size G M gb ps ls l N x av wr) (fun av _ _ _ _ _=>64 - slN av)
 case atStart=>exact⟨⟨ls,l,[],x.lf⟩,vb,HCh.o,HL.o,HP.o,fun b hb=>.inl (GE.o.2.2.2.2.2.2.2.1 b hb),World.ownsRow_nil _ _ _ _,aE6.start II.o JJ.o (uV HN.o),Keep.refl _ _,yH rfl⟩
 obtain⟨σ,vb,hRC,hRL,hRB,hVB,hO,hS,hK,HE⟩:=hrel;have RC:=yH hRC;have RL:=yH hRL;have RB:=yH hRB;have VB:=yH hVB;have OO:=yH hO;have SI:=yH hS;have KK:=yH hK;have KHr:=yH (KH.o.keep hK zG);obtain⟨sn,hsn⟩:∃sn,σ.n=sn:=⟨_,rfl⟩;have HSN:=yH hsn
 have hsle:0≤sn∧sn≤1099511627776:=by
  have h1:=hS.sum;have h2:=hS.nn;have h3:0≤(σ.fs.map Fl.gi).sum:=hS.gi_nn;have:=HN.o;omega
 rw[hsn]at RC;obtain⟨ao,cap,hav,hc1,hc2,_,_⟩:=aAh hO;subst hav;unfold maxLen at hc2;clear hRC hRL hRB hO hS hK hVB hsn KH HL HP HCh;obtain⟨rs,rk,hr⟩:∃rs rk,(aA1 ps σ.ls σ.l x.ow x.ow 1099511627776 sn (agO σ.l x.sl x.bu x.nu x.de)).getD (0,0)=(rs,rk):=⟨_,_,rfl⟩;have HRr:=yH hr
 have CF:=yH (fun w' (h:Below wr.heap.size wr w')=>(show Calls Tryz.prog 242 #[.agg #[.int .u64 x.se,.int .u8 x.ow,.int .u8 x.sl,.int .u8 x.bu,.int .i64 sn,.int .i64 x.nu,.int .i64 x.de],.agg #[.pointer (some ⟨G,0,none⟩),.pointer (some ⟨gb,0,none⟩)]] w' fun e w''=>e=.returned (.tuple #[.int .u64 rs,.int .i64 rk])∧Below w'.heap.size w' w'' from by
  have q:=cfirst_any (x:=⟨x.se,x.ow,x.sl,x.bu,sn,x.nu,x.de⟩) HMy (RL.o.below h) SI.o.linv (RB.o.below h) SI.o.binv ⟨HX.o.se,HX.o.ow,HX.o.sl,HX.o.bu,⟨by show _≤sn;omega,by show sn≤_;omega⟩,HX.o.nu,HX.o.de⟩ HMB.o;dsimp only at q;rw[HRr.o]at q;exact q))
 clear hr;go_wp2_with fail
 refine aAm zW [(.pointer (some ⟨ch,0,none⟩)),(.pointer (some ⟨ch,0,none⟩)),(.agg #[.int .u64 x.se,.int .u8 x.ow,.int .u8 x.sl,.int .u8 x.bu,.int .i64 sn,.int .i64 x.nu,.int .i64 x.de]),(.agg #[.pointer (some ⟨G,0,none⟩),.pointer (some ⟨gb,0,none⟩)]),(.tuple #[.int .u64 rs,.int .i64 rk]),(.tuple #[.int .u64 rs,.int .i64 rk]),(.int .u64 rs),(.int .i64 rk),(.int .u64 rs),(.int .i64 rk)]
  (fun w'=>Below wr.heap.size wr w') zW yZ.drew ?_
 intro af haf;simp only[yG,List.append_eq,List.cons_append,List.nil_append,puts,Act.put,yA,yC,yF,yD,yE]at haf;subst haf;refine⟨?_,?_⟩
 ·simp only[yG,List.append_eq,List.cons_append,List.nil_append,aBd];refine⟨?z1,?z2,?_,?_,?_,?z3,?z4,?z5,?z6,?z7,trivial⟩
  case z1|z2|z3|z4|z5|z6|z7=>
   intro w' hS;refine yO rfl ?_;have HS:=yH hS;clear hS;go_wp2_with fail;all_goals first|exact HS|exact⟨rfl,HS⟩|rfl|exact⟨zQ,HS.o⟩
  ·intro w' hS;refine yO rfl ?_;have d0_0:=(RC.o.below hS RC.o.lt).cell 0;have d0_1:=(RC.o.below hS RC.o.lt).cell 1;have d0_2:=(RC.o.below hS RC.o.lt).cell 2;have d0_3:=(RC.o.below hS RC.o.lt).cell 3;have d0_4:=(RC.o.below hS RC.o.lt).cell 4;have d0_5:=(RC.o.below hS RC.o.lt).cell 5;have d0_6:=(RC.o.below hS RC.o.lt).cell 6;simp at d0_0 d0_1 d0_2 d0_3 d0_4 d0_5 d0_6;have HS:=yH hS;clear hS;go_wp2_with fail;all_goals first|exact HS|exact⟨rfl,HS⟩|rfl|exact⟨zQ,HS.o⟩
  ·intro w' hS;refine yO rfl ?_;have d0_0:=(KHr.o.below hS KHr.o.lt).cell 0;have d0_1:=(KHr.o.below hS KHr.o.lt).cell 1;simp at d0_0 d0_1;have HS:=yH hS;clear hS;go_wp2_with fail;all_goals first|exact HS|exact⟨rfl,HS⟩|rfl|exact⟨zQ,HS.o⟩
  intro w' hS;refine yO rfl ?_;have HS:=yH hS;clear hS;go_wp2_with fail;refine(CF.o _ HS.o).mono ?_;rintro e w'' ⟨rfl,hb2⟩;exact⟨rfl,andB HS.o hb2⟩
 intro w1 hS1;have b1:=hS1;have KH1:=yB KHr b1;have RC1:=yB RC b1;have RL1:=yH (RL.o.below b1);have RB1:=yH (RB.o.below b1);have OO1:=yH (aAg OO.o b1);have KK1:=yH (KK.o.trans (pAD b1));have KW:=yH ((pAD (S:=fun k=>k=ch∨base≤k) BW.o).trans (KK1.o.mono (fun k _ h=>h.imp id (fun q=>q.1))));clear b1 hS1 CF KHr RC RL RB OO KK;have HR0:=HRr.o
 cases hfs:aA1 ps σ.ls σ.l x.ow x.ow 1099511627776 sn (agO σ.l x.sl x.bu x.nu x.de)with
 | none=>
  rw[hfs]at HR0;simp only[Option.getD_none,Prod.mk.injEq]at HR0;obtain⟨h1,h2⟩:=HR0;subst h1 h2;have YES:Hid (aB5 ps x.ow x.sl x.bu x.nu x.de 64 ⟨ls,l,[],x.lf⟩=(0,σ)):=yH (by rw[HE.o];exact aQc SI.o _ vK);clear hfs;have CL:=yH (aOy OO1.o);have HLE:=yH (show w.heap.size≤W.heap.size by have:=HWS.o;omega);go_wp2_with fail;refine CL.o.mono ?_;rintro e w2 ⟨v,rfl,hv,_,rfl⟩;obtain⟨a,c,rfl,_,_,_,_⟩:=hv.look;have HV:=yH (hv.base HLE.o);clear hv CL;go_wp2_with fail;go_ret2;exact .inr ⟨_,a,c,σ,YES.o,rfl,by rw[HSN.o];exact RC1.o,RL1.o,RB1.o,HV.o,KW.o⟩
 | some sk=>
  obtain⟨s0,k0⟩:=sk;rw[hfs]at HR0;simp only[Option.getD_some,Prod.mk.injEq]at HR0;obtain⟨h1,h2⟩:=HR0;subst h1 h2;obtain⟨k1,k2,ok,o,ho,_,_,u1,u2,hnx,hnext⟩:=SI.o.step (s:=s0) (k:=k0) vK;rw[HSN.o]at u2 hnx;have HFS:=yH hfs;have HOK:=yH ok;have HO:=yH ho;have HNX:=yH hnext;have HSQ:=yH (show 0≤o.se∧o.se≤18446744073709551615 from by have h1:=SI.o.binv.bd o (aB2 ho).1;have h2:=SI.o.binv.n2;omega);rw[(aB2 ho).2]at HSQ;have z5:decide (k0<1)=false:=zU
  have HPOS:=yH (show ¬sn≤0 by omega);clear hfs ok ho hnext
  by_cases hfull:σ.fs.length=64
  ·have z6:((σ.fs.length:Int)==64)=true:=zU
   have NO:Hid ((aB5 ps x.ow x.sl x.bu x.nu x.de 64 ⟨ls,l,[],x.lf⟩).1=13):=yH (by
    rw[HE.o,aGd (by rw[HSN.o];exact HPOS.o) vQ hfull])
   clear hfull;go_wp2_with fail;go_ret2;exact .inl ⟨NO.o,rfl,KW.o⟩
  have z6:((σ.fs.length:Int)==64)=false:=zU
  have hl64:σ.fs.length+1≤64:=uV SI.o.len
  have HL64:=yH hl64;have NX2:=yH (HNX.o hfull);have CDo:=yH (aJ4 HD RL1.o SI.o.linv RB1.o SI.o.binv s0 x.ow x.ow k0 HSQ.o HX.o.ow HX.o.ow ⟨zQ,zQ⟩);clear hfull hl64
  have LTS:=yH (show ∀k,(k=G∨k=M∨Foot gb vb k)→k<w1.heap.size from fun k h=>by
   rcases h with rfl|rfl|h
   ·exact RL1.o.blk.lt
   ·exact RL1.o.map.lt
   exact(RB1.o.lt h).2)
  have CDo:=yH (fun w' (h:Below w1.heap.size w1 w')=>(show Calls Tryz.prog 235 #[.agg #[.pointer (some ⟨G,0,none⟩),.pointer (some ⟨gb,0,none⟩)],.int .u64 s0,.int .u8 x.ow,.int .u8 x.ow,.int .i64 k0] w' fun e w''=>e=.returned (.tuple #[.agg #[.int .u64 s0,.int .u8 x.ow,.int .u8 x.ow,.int .i64 k0,.int .i64 (upN (k0*o.nu) o.de)],.int .i64 0])∧
    DoT w1 base G M gb ps (aC2 ps σ.ls o x.ow x.ow k0 (upN (k0*o.nu) o.de)) (aCe σ.l s0 k0) N vb w''∧Keep (fun k=>k=G∨k=M∨Foot gb vb k) w' w'' from by
   refine(aJ4 HD (RL1.o.below h) SI.o.linv (RB1.o.below h) SI.o.binv s0 x.ow x.ow k0 HSQ.o HX.o.ow HX.o.ow ⟨zQ,zQ⟩).mono ?_;rintro e w'' (⟨hno,_⟩|⟨_,o',y',vb',ho',hy',rfl,hRL',hRB',kk,hmv⟩)
   ·exact absurd HOK.o hno
   rw[HO.o]at ho'
   cases ho'
   subst hy';exact⟨rfl,⟨vb',hRL',hRB',fun b hb=>(hmv b hb).imp id (fun q=>Nat.le_trans h.size q)⟩,kk⟩))
  obtain⟨y,hy⟩:∃y,upN (k0*o.nu) o.de=y:=⟨_,rfl⟩;rw[hy]at CDo u1 u2 hnx;rw[hnx]at NX2
  have HE2:Hid (aB5 ps x.ow x.sl x.bu x.nu x.de 64 ⟨ls,l,[],x.lf⟩=aB5 ps x.ow x.sl x.bu x.nu x.de (64 - (σ.fs.length+1)) ⟨aC2 ps σ.ls o x.ow x.ow k0 y,aCe σ.l s0 k0,σ.fs++[⟨s0,k0,y⟩],sn - y⟩):=yH (by
   rw[HE.o,←hnx,←aIz (by rw[HSN.o];exact HPOS.o) vQ vR];congr 1;have:=HL64.o;omega)
  obtain⟨LS,hLS⟩:∃LS,aC2 ps σ.ls o x.ow x.ow k0 y=LS:=⟨_,rfl⟩;obtain⟨TL,hTL⟩:∃TL,aCe σ.l s0 k0=TL:=⟨_,rfl⟩;rw[hLS,hTL]at CDo HE2 NX2;clear hnx hy hLS hTL HNX HE HFS HOK HO
  go_upto_region 6 with fail
  refine aA9 zW (fun g:Nat=>[(.agg #[.pointer (some ⟨G,0,none⟩),.pointer (some ⟨gb,0,none⟩)]),(.int .u64 s0),(.pointer (some ⟨ch,0,none⟩)),(.pointer (some ⟨ch,0,none⟩)),(.pointer (some ⟨ch,1,none⟩)),(.int .u8 x.ow),(.pointer (some ⟨ch,0,none⟩)),(.pointer (some ⟨ch,0,none⟩)),(.pointer (some ⟨ch,1,none⟩)),(.int .u8 x.ow),(.int .i64 k0),(.tuple #[.agg #[.int .u64 s0,.int .u8 x.ow,.int .u8 x.ow,.int .i64 k0,.int .i64 y],.int .i64 0]),(.tuple #[.agg #[.int .u64 s0,.int .u8 x.ow,.int .u8 x.ow,.int .i64 k0,.int .i64 y],.int .i64 0]),(.agg #[.int .u64 s0,.int .u8 x.ow,.int .u8 x.ow,.int .i64 k0,.int .i64 y]),(.int .i64 0),(.pointer (some ⟨g,0,none⟩)),undef,(.int .i64 0)])
   (DoI w1 base G M gb ps LS TL N vb #[.int .u64 s0,.int .u8 x.ow,.int .u8 x.ow,.int .i64 k0,.int .i64 y]) zW 0 DoI.start ?_
  intro AF hAF;simp only[yG,List.append_eq,List.cons_append,List.nil_append,puts,Act.put,yA,yC,yF,yD,yE]at hAF;have hAF2:_=AF:=funext hAF;subst hAF2;clear hAF;refine⟨?_,?_⟩
  ·simp only[yG,List.append_eq,List.cons_append,List.nil_append,aFp];refine⟨?_,?_,?_,?_,?_,?_,?_,?_,?_,?_,?_,?_,?_,?_,?_,?_,?_,?_,trivial⟩
   ·intro g D w' hD hW hC hI;refine⟨g,fun _ _ _=>rfl,?_⟩;with_reducible refine yO rfl ?_
    have hS:=hI.1 (aAd hC hD 11 zW);have hk:=KH1.o.below hS KH1.o.lt;have e0:=hk.cell 0;have e1:=hk.cell 1;simp at e0 e1;clear hk;have HS:=yH (hI.keep 0 rfl);clear hI hC hW hD hS;go_wp2_with fail;all_goals first|exact HS|exact⟨rfl,HS⟩|rfl
   ·intro g D w' hD hW hC hI;refine⟨g,fun _ _ _=>rfl,?_⟩;with_reducible refine yO rfl ?_
    have HS:=yH (hI.keep 1 rfl);clear hI hC hW hD;go_wp2_with fail;all_goals first|exact HS|exact⟨rfl,HS⟩|rfl
   ·intro g D w' hD hW hC hI;refine⟨g,fun _ _ _=>rfl,?_⟩;with_reducible refine yO rfl ?_
    have HS:=yH (hI.keep 2 rfl);clear hI hC hW hD;go_wp2_with fail;all_goals first|exact HS|exact⟨rfl,HS⟩|rfl
   ·intro g D w' hD hW hC hI;refine⟨g,fun _ _ _=>rfl,?_⟩;with_reducible refine yO rfl ?_
    have hS:=hI.1 (aAd hC hD 11 zW);have hk:=RC1.o.below hS RC1.o.lt;have e1:=hk.cell 1;simp at e1;clear hk;have HS:=yH (hI.keep 3 rfl);clear hI hC hW hD hS;go_wp2_with fail;all_goals first|exact HS|exact⟨rfl,HS⟩|rfl
   ·intro g D w' hD hW hC hI;refine⟨g,fun _ _ _=>rfl,?_⟩;with_reducible refine yO rfl ?_
    have hS:=hI.1 (aAd hC hD 11 zW);have hk:=RC1.o.below hS RC1.o.lt;have e1:=hk.cell 1;simp at e1;clear hk;have HS:=yH (hI.keep 4 rfl);clear hI hC hW hD hS;go_wp2_with fail;all_goals first|exact HS|exact⟨rfl,HS⟩|rfl
   ·intro g D w' hD hW hC hI;refine⟨g,fun _ _ _=>rfl,?_⟩;with_reducible refine yO rfl ?_
    have hS:=hI.1 (aAd hC hD 11 zW);have hk:=RC1.o.below hS RC1.o.lt;have e1:=hk.cell 1;simp at e1;clear hk;have HS:=yH (hI.keep 5 rfl);clear hI hC hW hD hS;go_wp2_with fail;all_goals first|exact HS|exact⟨rfl,HS⟩|rfl
   ·intro g D w' hD hW hC hI;refine⟨g,fun _ _ _=>rfl,?_⟩;with_reducible refine yO rfl ?_
    have HS:=yH (hI.keep 6 rfl);clear hI hC hW hD;go_wp2_with fail;all_goals first|exact HS|exact⟨rfl,HS⟩|rfl
   ·intro g D w' hD hW hC hI;refine⟨g,fun _ _ _=>rfl,?_⟩;with_reducible refine yO rfl ?_
    have hS:=hI.1 (aAd hC hD 11 zW);have hk:=RC1.o.below hS RC1.o.lt;have e1:=hk.cell 1;simp at e1;clear hk;have HS:=yH (hI.keep 7 rfl);clear hI hC hW hD hS;go_wp2_with fail;all_goals first|exact HS|exact⟨rfl,HS⟩|rfl
   ·intro g D w' hD hW hC hI;refine⟨g,fun _ _ _=>rfl,?_⟩;with_reducible refine yO rfl ?_
    have hS:=hI.1 (aAd hC hD 11 zW);have hk:=RC1.o.below hS RC1.o.lt;have e1:=hk.cell 1;simp at e1;clear hk;have HS:=yH (hI.keep 8 rfl);clear hI hC hW hD hS;go_wp2_with fail;all_goals first|exact HS|exact⟨rfl,HS⟩|rfl
   ·intro g D w' hD hW hC hI;refine⟨g,fun _ _ _=>rfl,?_⟩;with_reducible refine yO rfl ?_
    have hS:=hI.1 (aAd hC hD 11 zW);have hk:=RC1.o.below hS RC1.o.lt;have e1:=hk.cell 1;simp at e1;clear hk;have HS:=yH (hI.keep 9 rfl);clear hI hC hW hD hS;go_wp2_with fail;all_goals first|exact HS|exact⟨rfl,HS⟩|rfl
   ·intro g D w' hD hW hC hI;refine⟨g,fun _ _ _=>rfl,?_⟩;with_reducible refine yO rfl ?_
    have HS:=yH (hI.keep 10 rfl);clear hI hC hW hD;go_wp2_with fail;all_goals first|exact HS|exact⟨rfl,HS⟩|rfl
   ·intro g D w' hD hW hC hI;refine⟨g,fun _ _ _=>rfl,?_⟩;with_reducible refine yO rfl ?_
    have h16:=aAd hC hD 16 zW;have HI:=yH hI;have HC:=yH (CDo.o w' (hI.1 hD));have HB:=yH (And.intro hD h16);clear hI hC hW hD h16;go_wp2_with fail;refine HC.o.mono ?_;rintro e w'' ⟨rfl,ht,hk⟩;exact⟨rfl,HI.o.call HB.o.1 HB.o.2 LTS.o ht hk⟩
   ·intro g D w' hD hW hC hI;refine⟨g,fun _ _ _=>rfl,?_⟩;with_reducible refine yO rfl ?_
    have HS:=yH (hI.keep 12 rfl);clear hI hC hW hD;go_wp2_with fail;all_goals first|exact HS|exact⟨rfl,HS⟩|rfl
   ·intro g D w' hD hW hC hI;refine⟨g,fun _ _ _=>rfl,?_⟩;with_reducible refine yO rfl ?_
    have HS:=yH (hI.keep 13 rfl);clear hI hC hW hD;go_wp2_with fail;all_goals first|exact HS|exact⟨rfl,HS⟩|rfl
   ·intro g D w' hD hW hC hI;refine⟨g,fun _ _ _=>rfl,?_⟩;with_reducible refine yO rfl ?_
    have HS:=yH (hI.keep 14 rfl);clear hI hC hW hD;go_wp2_with fail;all_goals first|exact HS|exact⟨rfl,HS⟩|rfl
   ·intro g D w' hD hW hC hI;have h16:=aAd hC hD 16 zW;refine⟨w'.heap.size,fun j hj hjD=>?_,?_⟩
    ·rcases(by have:j<18:=hj;omega:j=0∨j=1∨j=2∨j=3∨j=4∨j=5∨j=6∨j=7∨j=8∨j=9∨j=10∨j=11∨j=12∨j=13∨j=14∨j=15∨j=16∨j=17)with rfl|rfl|rfl|rfl|rfl|rfl|rfl|rfl|rfl|rfl|rfl|rfl|rfl|rfl|rfl|rfl|rfl|rfl
     all_goals first|rfl|exact absurd (hD.symm.trans hjD) zX
    with_reducible refine yO rfl ?_
    have HS:=yH (hI.lay h16);clear hI hC hW hD h16;go_wp2_with fail;all_goals first|exact HS|exact⟨rfl,HS⟩|rfl
   ·intro g D w' hD hW hC hI;refine⟨g,fun _ _ _=>rfl,?_⟩;with_reducible refine yO rfl ?_
    have h11:D 11=true:=aA8 hC hW zW;have h15:D 15=true:=aA8 hC hW zW;have HS:=yH (hI.fill h11 h15 hD LTS.o);have hk:=(hI.2.2.2 h15).2.1 hD;refine wp_store_row 241 (.tmp 10) (.tmp 43) rfl g #[.int .u64 s0,.int .u8 x.ow,.int .u8 x.ow,.int .i64 k0,.int .i64 y] rfl rfl 241 _ hk zW rfl zK ⟨rfl,?_⟩;exact HS.o
   intro g D w' hD hW hC hI;refine⟨g,fun _ _ _=>rfl,?_⟩;with_reducible refine yO rfl ?_
   have HS:=yH (hI.keep 17 rfl);clear hI hC hW hD;go_wp2_with fail;all_goals first|exact HS|exact⟨rfl,HS⟩|rfl
  intro g D w3 hall hI;obtain⟨_,a2,a3,a4⟩:=hI;obtain⟨⟨vb2,t1,t2,t3⟩,kk⟩:=a2 (hall 11 zX);obtain⟨g1,_,g2⟩:=a4 (hall 15 zX);have KF:=yH (g2 (hall 16 zX));have hWS:=HWS.o;have hge:=GE.o;have hsz:=KK1.o.size
  have hvb:∀j,j<W.heap.size→(j=G∨j=M∨Foot gb vb j)→base≤j∧j<w.heap.size:=by
   intro j hj h;rcases h with h|h|h|h
   ·omega
   ·omega
   ·omega
   have h1:=VB.o j h;have h2:=(RB1.o.lt (b:=j) (.inr h)).1;omega
  have RC3:=yH (RC1.o.keep kk (fun h=>by have:=hvb _ zQ h;omega))
  have OO3:=yH (aBr OO1.o kk (fun b hb h=>by
   have h1:=(aAf OO1.o hb).1;rcases h with h|h|h|h
   ·omega
   ·omega
   ·omega
   exact aH5 OO1.o RB1.o.row zX b hb h))
  have KK3:=yH (KK1.o.trans_new kk (fun j hj h=>.inr (hvb j hj h)))
  have VB3:=yH (show ∀b,vb2.ownBlock=some b→b<w.heap.size∨W.heap.size≤b from fun j hj=>by
   rcases t3 j hj with h|h
   ·exact VB.o j h
   exact .inr zQ)
  have RL3:=yH t1;have RB3:=yH t2;have GO:=yH (show ∀b,(Value.slice ao σ.fs.length cap).ownBlock=some b→b<g∧W.heap.size≤b from fun b hb=>uV (aAf OO1.o hb));clear hWS hge hsz hvb t1 t2 t3 a2 a3 a4 kk g1 g2 hall RL1 RB1 OO1 KK1 RC1 KH1 VB CDo LTS;have f0:=KF.o.cell 0;have f1:=KF.o.cell 1;have f2:=KF.o.cell 2;have f3:=KF.o.cell 3;have f4:=KF.o.cell 4;simp at f0 f1 f2 f3 f4;have hb5:=KK3.o.size;go_wp2_with (at_builtin;refine aA2 _ rfl (.tmp 45) (.tmp 47) 235 241 rfl Tryz.underlying235 info_flp12 rfl zX zX W.heap.size _ σ.fs.length _ rfl (OO3.o.alloc _) w3.heap.size 1 [.int .u64 s0,.int .u8 x.ow,.int .u8 x.ow,.int .i64 k0,.int .i64 y] rfl rfl (Blk.new _ _ _) zK vR zU ?_);intro v2 w4 ho2 hg2;have KG:Keep (fun k=>(Value.slice ao σ.fs.length cap).ownBlock=some k) w3 w4:=((Keep.refl _ w3).alloc _).grown hg2 (fun k hk=>.inl hk);have RL4:=yH (RL3.o.keep KG (fun h=>yX) (fun h=>yX));have RB4:=yH (RB3.o.keep KG (fun h=>yX) (fun b hb h=>aH5 OO3.o RB3.o.row zX b h hb));have KK4:=yH (KK3.o.trans_new KG (fun j hj h=>by have:=(aAf OO3.o h).1;omega));have RC4:=yH (RC3.o.keep KG (fun h=>yX));have KF4:=yH (KF.o.keep KG (fun h=>uV (GO.o _ h)));have O4:=yH (show w4.ownsRow W.heap.size 241 5 v2 (σ.fs++[(⟨s0,k0,y⟩:Fl)]).length (aCi x.ow x.ow (σ.fs++[(⟨s0,k0,y⟩:Fl)]))from by rw[aLf];simpa [Fl.vals]using ho2);obtain⟨ao2,cap2,hv2,_⟩:=aAh O4.o;subst hv2;clear KG ho2 hg2 f0 f1 f2 f3 f4 hb5 RL3 RB3 OO3 KK3 RC3 KF;have c4:=RC4.o.cell 4;have cf:=RC4.o.frozen 4;have f4:=KF4.o.cell 4;simp at c4 f4;have kk:Keep (fun k=>k=ch) w4 (w4.setCell ⟨ch,4,none⟩ (.int .i64 (sn - y))).drew:=(Keep.setCell (S:=fun k=>k=ch) (Keep.refl _ _) (p:=⟨ch,4,none⟩) (.inl rfl) _).drew;have RC5:Hid (Blk (w4.setCell ⟨ch,4,none⟩ (.int .i64 (sn - y))).drew ch #[.int .u64 x.se,.int .u8 x.ow,.int .u8 x.sl,.int .u8 x.bu,.int .i64 (sn - y),.int .i64 x.nu,.int .i64 x.de] 294):=yH (RC4.o.set 4 _);have RL5:=yH (RL4.o.keep kk zG zG);have RB5:=yH (RB4.o.keep kk zG (fun b hb e=>by have h1:=(RB4.o.lt (.inr hb)).1;have:=GE.o;omega));have KK5:=yH (KK4.o.trans (kk.mono (fun k _ h=>.inl h)));have O5:=yH (aBr O4.o kk (fun b hb e=>by have h1:=(aAf O4.o hb).1;have:=GE.o;have:=HWS.o;omega));clear kk RL4 RB4 KK4 O4;go_wp2_with fail
  go_region
  all_goals
   go_wp2_with fail;exact⟨⟨⟨LS,TL,σ.fs++[⟨s0,k0,y⟩],sn - y⟩,_,RC5.o,RL5.o,RB5.o,VB3.o,O5.o,NX2.o,KK5.o,yH (by rw[HE2.o];simp)⟩,by simp[slN];have:=HL64.o;omega⟩
theorem aBq{P:Program}{fn:Func}{p u x y:Tmp}{ty:TypeId}(h:fn.results=#[.cell p ty,.tmp u,.tmp x,.tmp y])(tmps:Array Value)(w:World)(g:Nat)(t:TypeId)(cs:Array Value)(d:TypeDesc)(v v2 v3:Value)
  (hp:tmps.getD p undef=.pointer (some ⟨g,0,none⟩))(hg:w.heap[g]? = some (.cells cs t (0,0)))
  (hu:P.underlying ty=some d)(hd:(match d with | .struct _ | .array _ _=>true|_=>false)=true)(hi:(P.info? ty).map (·.size)=some cs.size)(hv:tmps.getD u undef=v)(hv2:tmps.getD x undef=v2)(hv3:tmps.getD y undef=v3):
  (results fn tmps).run P w=.ok (.tuple #[.agg cs,v,v2,v3]) w:=by
 have h1:=results_cell_row (P:=P) (fn:={ fn with results:=#[.cell p ty] }) rfl tmps w g t cs (0,0) d hp hg hu hd hi
 have h2:((asAddr (tmps.getD p undef)).run P w).andThen (fun a w₁=>(loadVar ty a).run P w₁)=.ok (.agg cs) w:=by
  simpa [results,Sem.run_bind,Result.andThen]using h1
 have h3:(results fn tmps).run P w=((asAddr (tmps.getD p undef)).run P w).andThen fun a w₁=>((loadVar ty a).run P w₁).andThen fun v w₂=>.ok (.tuple #[v,tmps.getD u undef,tmps.getD x undef,tmps.getD y undef]) w₂:=by
  simp only[results,h];simp[Sem.run_bind,Result.andThen]
 rw[h3];rw[hp]at h2 ⊢;simp only[asAddr,Sem.run_pure,Result.andThen_ok]at h2 ⊢;rw[h2];simp only[Result.andThen_ok,hv,hv2,hv3]
end Go.Proofs.YtngnfdnfpiiclaaGreat
