/- Pieces of one proof. -/
import Derived.Test.YtojbmnbphdcjfaaGreatP09
import Derived.Test.YtojbmnbphdcjfaaGreatP21
set_option linter.all false
set_option maxHeartbeats 64000000
set_option maxRecDepth 100000
namespace Go.Proofs.YtojbmnbphdcjfaaGreat
open Go.RowKit
def Of.may(x:Of):Prop:=(1≤x.ow∧x.ow≤16)∧(1≤x.sl∧x.sl≤8)∧(1≤x.bu∧x.bu≤8)∧x.sl≠x.bu∧(1≤x.lf∧x.lf≤1099511627776)∧mayB x.nu x.de=true
instance(x:Of):Decidable x.may:=by unfold Of.may;infer_instance
theorem omay_any(x:Of)(w:World):
  Calls Tryz.prog 82 #[.agg #[.int .u64 x.se,.int .u8 x.ow,.int .u8 x.sl,.int .u8 x.bu,.int .i64 x.lf,.int .i64 x.nu,.int .i64 x.de]] w (yR w (.bool (decide x.may))):=by
 have B0:=yH ((Below.refl w.heap.size w).alloc yL (.cells #[.int .u64 x.se,.int .u8 x.ow,.int .u8 x.sl,.int .u8 x.bu,.int .i64 x.lf,.int .i64 x.nu,.int .i64 x.de] 76));have C:=yH (aE1 x.nu x.de)
 by_cases h0:x.ow<1
 ·rw[decide_eq_false (fun k:x.may=>by have:=k.1;omega)];clear C;go_enter Tryz.func82,Tryz.ntmps82;go_wp2_with fail;go_ret;exact⟨rfl,B0.out⟩
 by_cases h1:16<x.ow
 ·rw[decide_eq_false (fun k:x.may=>by have:=k.1;omega)];clear C;go_enter Tryz.func82,Tryz.ntmps82;go_wp2_with fail;go_ret;exact⟨rfl,B0.out⟩
 by_cases h2:x.sl<1
 ·rw[decide_eq_false (fun k:x.may=>by have:=k.2.1;omega)];clear C;go_enter Tryz.func82,Tryz.ntmps82;go_wp2_with fail;go_ret;exact⟨rfl,B0.out⟩
 by_cases h3:8<x.sl
 ·rw[decide_eq_false (fun k:x.may=>by have:=k.2.1;omega)];clear C;go_enter Tryz.func82,Tryz.ntmps82;go_wp2_with fail;go_ret;exact⟨rfl,B0.out⟩
 by_cases h4:x.bu<1
 ·rw[decide_eq_false (fun k:x.may=>by have:=k.2.2.1;omega)];clear C;go_enter Tryz.func82,Tryz.ntmps82;go_wp2_with fail;go_ret;exact⟨rfl,B0.out⟩
 by_cases h5:8<x.bu
 ·rw[decide_eq_false (fun k:x.may=>by have:=k.2.2.1;omega)];clear C;go_enter Tryz.func82,Tryz.ntmps82;go_wp2_with fail;go_ret;exact⟨rfl,B0.out⟩
 by_cases h6:x.sl=x.bu
 ·rw[decide_eq_false (fun k:x.may=>by exact k.2.2.2.1 h6)];clear C;have e1:(x.sl==x.bu)=true:=by simpa using h6
  have e2:(x.sl != x.bu)=false:=by simpa using h6
  clear h6;go_enter Tryz.func82,Tryz.ntmps82;go_wp2_with fail;go_ret;exact⟨rfl,B0.out⟩
 have e1:(x.sl==x.bu)=false:=by simpa using h6
 have e2:(x.sl != x.bu)=true:=by simpa using h6
 by_cases h7:¬1≤x.lf
 ·rw[decide_eq_false (fun k:x.may=>by have:=k.2.2.2.2.1;omega)];clear C;have e3:decide (1≤x.lf)=false:=by simpa using h7
  go_enter Tryz.func82,Tryz.ntmps82;go_wp2_with fail;go_ret;exact⟨rfl,B0.out⟩
 have h7:=Decidable.not_not.1 h7;have e3:decide (1≤x.lf)=true:=by simpa using h7
 by_cases h8:¬x.lf≤1099511627776
 ·rw[decide_eq_false (fun k:x.may=>by have:=k.2.2.2.2.1;omega)];clear C;have e4:decide (x.lf≤1099511627776)=false:=by simpa using h8
  go_enter Tryz.func82,Tryz.ntmps82;go_wp2_with fail;go_ret;exact⟨rfl,B0.out⟩
 have h8:=Decidable.not_not.1 h8;have e4:decide (x.lf≤1099511627776)=true:=by simpa using h8
 have hd:decide x.may=mayB x.nu x.de:=by
  cases hb:mayB x.nu x.de with
  | true=>exact decide_eq_true ⟨by omega,by omega,by omega,h6,⟨h7,h8⟩,hb⟩
  | false=>exact decide_eq_false (fun k=>by have:=k.2.2.2.2.2;rw[hb]at this;cases this)
 rw[hd];clear hd;generalize mayB x.nu x.de=r at *;go_enter Tryz.func82,Tryz.ntmps82;go_wp2_with fail;refine(C.out _).mono ?_;rintro e w1 ⟨rfl,b1⟩;have B1:=yT B0 b1;clear b1 C B0;go_wp2_with fail;go_ret;exact⟨rfl,B1.out⟩
structure RefB(w:World)(base g:Nat)(l:List Of)(N:Int)(vl:Value):Prop where
 blk:Blk w g #[vl,.int .u64 N] 145
 ge:base≤g
 row:w.ownsRow base 76 7 vl l.length (aAa l)
theorem RefB.keep{S:Nat→Prop}{w w':World}{base g:Nat}{l:List Of}{N:Int}{vl:Value}(h:RefB w base g l N vl)(k:Keep S w w')(h1:¬S g)(h2:∀b,vl.ownBlock=some b→¬S b):RefB w' base g l N vl:=⟨h.blk.keep k h1,h.ge,aAm h.row k h2⟩
theorem RefB.below{w w':World}{base g:Nat}{l:List Of}{N:Int}{vl:Value}(h:RefB w base g l N vl)(k:Below w.heap.size w w'):RefB w' base g l N vl:=h.keep (pAE (S:=fun _=>False) k) id (fun _ _=>id)
theorem bnew_any(w:World)(base:Nat)(hb:base≤w.heap.size):
  Calls Tryz.prog 78 #[] w fun e w'=>e=.returned (.pointer (some ⟨w.heap.size,0,none⟩))∧RefB w' base w.heap.size [] 1 (.slice none 0 0)∧Below w.heap.size w w':=by
 have K:=yH (pAA w #[.slice none 0 0,.int .u64 1] 145);go_enter Tryz.func78,Tryz.ntmps78;go_wp2;go_ret;exact⟨rfl,⟨K.out,hb,World.ownsRow_nil _ _ _ _⟩,yZ.alloc yL _⟩
def aBs(l:List Of)(s:Int):Option Of:=l.find? fun x=>x.se==s
def noOf:Of:=⟨0,0,0,0,0,0,0⟩
def aHn(o:Option Of):Value:=match o with|some x=>.tuple #[x.val,.bool true]|none=>.tuple #[noOf.val,.bool false]
theorem findO_at{l:List Of}{s:Int}{k:Nat}(hk:k<l.length)(hn:∀x∈l.take k,(x.se==s)=false)(hx:(l[k].se==s)=true):aBs l s=some l[k]:=by
 unfold aBs;rw[List.find?_eq_some_iff_getElem];refine⟨hx,k,hk,rfl,fun j hj=>?_⟩;have:=hn l[j] (by rw[List.mem_take_iff_getElem];exact⟨j,by omega,rfl⟩);simp[this]
theorem aM2{l:List Of}{s:Int}(hn:∀x∈l,(x.se==s)=false):aBs l s=none:=by
 unfold aBs;rw[List.find?_eq_none];intro x hx;simp[hn x hx]
theorem aEl{q:Of→Prop}{l:List Of}{k:Nat}(h:k<l.length)(hn:∀x∈l.take k,q x)(hx:q l[k]):∀x∈l.take (k+1),q x:=by
 rw[List.take_succ_eq_append_getElem h];intro x hx';rcases List.mem_append.1 hx' with h1|h1
 ·exact hn x h1
 rw[List.mem_singleton]at h1;rw[h1];exact hx
theorem aC5{w:World}{b:Nat}{ls:List Of}(h:∀j,j<ls.length*7→w.cell? ⟨b,j,none⟩=(aAa ls)[j]?){k:Nat}(hk:k<ls.length):
  w.cell? ⟨b,k*7,none⟩=some (.int .u64 ls[k].se)∧w.cell? ⟨b,k*7+1,none⟩=some (.int .u8 ls[k].ow)∧w.cell? ⟨b,k*7+2,none⟩=some (.int .u8 ls[k].sl)∧w.cell? ⟨b,k*7+3,none⟩=some (.int .u8 ls[k].bu)∧w.cell? ⟨b,k*7+4,none⟩=some (.int .i64 ls[k].lf)∧w.cell? ⟨b,k*7+5,none⟩=some (.int .i64 ls[k].nu)∧w.cell? ⟨b,k*7+6,none⟩=some (.int .i64 ls[k].de):=by
 refine⟨?_,?_,?_,?_,?_,?_,?_⟩
 ·exact(h (k*7+0) (by omega)).trans (aAp ls k 0 (by omega) hk)
 ·exact(h (k*7+1) (by omega)).trans (aAp ls k 1 (by omega) hk)
 ·exact(h (k*7+2) (by omega)).trans (aAp ls k 2 (by omega) hk)
 ·exact(h (k*7+3) (by omega)).trans (aAp ls k 3 (by omega) hk)
 ·exact(h (k*7+4) (by omega)).trans (aAp ls k 4 (by omega) hk)
 ·exact(h (k*7+5) (by omega)).trans (aAp ls k 5 (by omega) hk)
 exact(h (k*7+6) (by omega)).trans (aAp ls k 6 (by omega) hk)
theorem aAb{P:Program}{ops:Array Oper}{rest:List Oper}{o:Oper}{a:Act}{w:World}{Q:Exit→Act→World→Prop}(hgd:o.guard=none)(ty:TypeId)(x y:Operand)(ho:o.op=.store ty x y)
  (g:Nat)(cells:Array Value)(hx:a.eval x=.pointer (some ⟨g,0,none⟩))(hy:a.eval y=.agg cells)
  (t:TypeId)(old:Array Value)(hg:w.heap[g]? = some (.cells old t (0,0)))(hi:(P.info? ty).map (·.size)=some cells.size)
  (hold:old.size=cells.size)(h1:cells.all (·.oneCell')=true)
  (h:wpList P ops Q rest (a.put o.dst undef) (w.setRow g cells)):wpList P ops Q (o::rest) a w:=
 wpList_plain hgd fun _ hK=>wp_store_row ty x y ho g cells hx hy t old hg hi hold h1 (hK _ _ h)
theorem aLl{w:World}{base g:Nat}{l:List Of}{N:Int}{vl:Value}(h:RefB w base g l N vl)(s:Int):
  Calls Tryz.prog 91 #[.pointer (some ⟨g,0,none⟩),.int .u64 s] w (yR w (aHn (aBs l s))):=by
 have bw:=(Below.refl w.heap.size w).alloc yL (.cells #[.int .u64 0,.int .u8 0,.int .u8 0,.int .u8 0,.int .i64 0,.int .i64 0,.int .i64 0] 76);have h2:=h.below bw;have B:=yH bw;have H:=yH h2;have KR:=yH (pAA w #[.int .u64 0,.int .u8 0,.int .u8 0,.int .u8 0,.int .i64 0,.int .i64 0,.int .i64 0] 76);obtain⟨ao,cap,rfl,hc1,hc2,hc3,hc4⟩:=aAd h2.row;have HC:=yH hc4;have hg:=h2.blk.lt;have dg:=h2.blk.cell 0;simp at dg;unfold maxLen at hc2;clear hc3 hc4 h bw h2;go_enter Tryz.func91,Tryz.ntmps91;go_wp2_with fail;generalize w.alloc (.cells #[.int .u64 0,.int .u8 0,.int .u8 0,.int .u8 0,.int .i64 0,.int .i64 0,.int .i64 0] 76)=W at *
 go_loopw [6] (fun i wr=>∃k:Nat,k≤l.length∧i=.int .i64 k∧Hid (∀x∈l.take k,(x.se==s)=false)∧wr=W) (fun i _=>l.length - (intOf i).toNat)
 case atStart=>exact⟨0,Nat.zero_le _,rfl,yH (by simp),rfl⟩
 obtain⟨k,hk,rfl,hn,rfl⟩:=hrel
 by_cases hkl:k<l.length
 ·obtain⟨b,rfl,hb1,hb2,hcell,_⟩:=HC.out (by omega);obtain⟨e0,e1,e2,e3,e4,e5,e6⟩:=aC5 hcell hkl;have FA:=yH (fun hx=>findO_at (s:=s) hkl hn.out hx);have TN:=yH (fun hx=>aEl (q:=fun x=>(x.se==s)=false) hkl hn.out hx);clear hcell hn;generalize l[k]=x at *
  by_cases hx:(x.se==s)=true
  ·have E:=yH (FA.out hx);clear FA TN;go_wp2_with (refine aAb rfl 76 (.tmp 4) (.tmp 32) rfl w.heap.size #[.int .u64 x.se,.int .u8 x.ow,.int .u8 x.sl,.int .u8 x.bu,.int .i64 x.lf,.int .i64 x.nu,.int .i64 x.de] rfl rfl 76 _ KR.out.out (by kernel_rfl) rfl (by simp[Value.oneCell']) ?_);rw[E.out];refine bodyPost_ret (v:=.tuple #[x.val,.bool true]) (aAh rfl _ _ w.heap.size 76 #[.int .u64 x.se,.int .u8 x.ow,.int .u8 x.sl,.int .u8 x.bu,.int .i64 x.lf,.int .i64 x.nu,.int .i64 x.de] _ _ rfl (setRow_heap _ w.heap.size _ _ _ (0,0) KR.out.out) Tryz.underlying76 rfl (by kernel_rfl) rfl) rfl ⟨rfl,below_setRow B.out yL _⟩
  have hx:(x.se==s)=false:=by simpa using hx
  have E:=yH (TN.out hx);clear FA TN;go_wp2_with fail;go_roundw
  case rel=>exact⟨k+1,by omega,by go_num,E,by first|rfl|trivial⟩
  case measure=>simp[intOf];omega
 have E:Hid (aBs l s=none):=yH (aM2 (by have:=hn.out;rwa [List.take_of_length_le (by omega)]at this));clear hn;go_wp2_with (refine aAb rfl 76 (.tmp 4) (.tmp 33) rfl w.heap.size #[.int .u64 0,.int .u8 0,.int .u8 0,.int .u8 0,.int .i64 0,.int .i64 0,.int .i64 0] rfl rfl 76 _ KR.out.out (by kernel_rfl) rfl (by simp[Value.oneCell']) ?_);rw[E.out];refine bodyPost_ret (v:=.tuple #[noOf.val,.bool false]) (aAh rfl _ _ w.heap.size 76 #[.int .u64 0,.int .u8 0,.int .u8 0,.int .u8 0,.int .i64 0,.int .i64 0,.int .i64 0] _ _ rfl (setRow_heap _ w.heap.size _ _ _ (0,0) KR.out.out) Tryz.underlying76 rfl (by kernel_rfl) rfl) rfl ⟨rfl,below_setRow B.out yL _⟩
def Of.put(s n:Int)(x:Of):Of:=if x.se=s then{ x with lf:=n }else x
def setO(l:List Of)(s n:Int):List Of:=(l.map (Of.put s n)).filter fun x=>decide (0<x.lf)
theorem setO_next(l:List Of)(s n:Int)(k:Nat)(h:k<l.length):setO (l.take (k+1)) s n=setO (l.take k) s n++(if 0<(l[k].put s n).lf then [l[k].put s n]else []):=by
 unfold setO;rw[List.take_succ_eq_append_getElem h,List.map_append,List.filter_append];congr 1;simp only[List.map_cons,List.map_nil,List.filter_cons,List.filter_nil,decide_eq_true_eq]
theorem setO_len(l:List Of)(s n:Int):(setO l s n).length≤l.length:=by
 unfold setO;exact Nat.le_trans (List.length_filter_le _ _) (by simp)
def SetOAt(w:World)(l:List Of)(s n:Int)(v i:Value)(wr:World):Prop:=
 ∃k:Nat,k≤l.length∧i=.int .i64 k∧wr.ownsRow w.heap.size 76 7 v (setO (l.take k) s n).length (aAa (setO (l.take k) s n))∧Below w.heap.size w wr
theorem bset_any{w:World}{base g:Nat}{l:List Of}{N:Int}{vl:Value}(h:RefB w base g l N vl)(s n:Int)(hlen:l.length≤1000):
  Calls Tryz.prog 147 #[.pointer (some ⟨g,0,none⟩),.int .u64 s,.int .i64 n] w fun e w'=>e=.returned (.tuple #[])∧∃vl',RefB w' base g (setO l s n) N vl'∧Keep (·=g) w w':=by
 have H:=yH h;obtain⟨ao,cap,rfl,hc1,hc2,hc3,hc4⟩:=aAd h.row;have HC:=yH hc4;have hg:=h.blk.lt;unfold maxLen at hc2;clear hc3 hc4 h;go_enter Tryz.func147,Tryz.ntmps147;go_wp2_with fail
 go_loopw [6,7] (SetOAt w l s n) (fun _ i _=>l.length - (intOf i).toNat)
 case atStart=>exact⟨0,Nat.zero_le _,rfl,World.ownsRow_nil _ _ _ _,yZ⟩
 obtain⟨k,hk,rfl,hown,hb⟩:=hrel;have hlo:=setO_len (l.take k) s n;have hlk:(l.take k).length≤k:=List.length_take_le _ _;have dg:=(H.out.blk.below hb hg).cell 0;simp at dg;have hgr:=(H.out.blk.below hb hg).lt
 by_cases hkl:k<l.length
 ·obtain⟨b,rfl,hb1,hb2,hcell,_⟩:=HC.out (by omega);obtain⟨e0,e1,e2,e3,e4,e5,e6⟩:=aC5 (w:=wr) (fun j hj=>by rw[hb.cell (p:=⟨b,j,none⟩) hb2];exact hcell j hj) hkl;have hbr:b<wr.heap.size:=yM hb2 hb.size;have NX:=yH (setO_next l s n k hkl);clear hcell;generalize l[k]=y at *;generalize setO (l.take k) s n=out at *;have hl2:out.length≤100000:=by omega
  have A0:=(Below.refl wr.heap.size wr).alloc yL (.cells #[.int .u64 y.se,.int .u8 y.ow,.int .u8 y.sl,.int .u8 y.bu,.int .i64 y.lf,.int .i64 y.nu,.int .i64 y.de] 76);have K0:=pAA wr #[.int .u64 y.se,.int .u8 y.ow,.int .u8 y.sl,.int .u8 y.bu,.int .i64 y.lf,.int .i64 y.nu,.int .i64 y.de] 76;have hwy:w.heap.size≤wr.heap.size:=hb.size;have rowlt:∀k,Value.ownBlock _=some k→k<wr.heap.size:=fun k hk=>(aAe hown hk).2.1
  by_cases hs:y.se=s
  ·have q1:(y.se==s)=true:=by simpa using hs
   have hy:y.put s n={ y with lf:=n }:=by unfold Of.put;rw[if_pos hs]
   rw[hy]at NX;have kk:=(Keep.refl (·=wr.heap.size) (wr.alloc (.cells #[.int .u64 y.se,.int .u8 y.ow,.int .u8 y.sl,.int .u8 y.bu,.int .i64 y.lf,.int .i64 y.nu,.int .i64 y.de] 76))).setCell (p:=⟨wr.heap.size,4,none⟩) (.inl rfl) (.int .i64 n);have KY:=yH (K0.set 4 (.int .i64 n));simp only[yF,yD,yE]at KY;have OY:=yH (aAm (hown.alloc (.cells #[.int .u64 y.se,.int .u8 y.ow,.int .u8 y.sl,.int .u8 y.bu,.int .i64 y.lf,.int .i64 y.nu,.int .i64 y.de] 76)) kk (fun b hb e=>by have:=rowlt b hb;omega));have BY:=yH ((hb.trans (A0.mono hb.size)).trans (kk.below (hb.trans (A0.mono hb.size)).size (fun b hb e=>by omega)));have z0:wr.heap.size+1≤((wr.alloc (.cells #[.int .u64 y.se,.int .u8 y.ow,.int .u8 y.sl,.int .u8 y.bu,.int .i64 y.lf,.int .i64 y.nu,.int .i64 y.de] 76)).setCell ⟨wr.heap.size,4,none⟩ (.int .i64 n)).heap.size:=by simp
   clear hown hb A0 K0 kk hs hy rowlt;generalize hW:(wr.alloc (.cells #[.int .u64 y.se,.int .u8 y.ow,.int .u8 y.sl,.int .u8 y.bu,.int .i64 y.lf,.int .i64 y.nu,.int .i64 y.de] 76)).setCell ⟨wr.heap.size,4,none⟩ (.int .i64 n)=Wy at *;have kl:=KY.out.lt;have y0:=KY.out.cell 0;have y1:=KY.out.cell 1;have y2:=KY.out.cell 2;have y3:=KY.out.cell 3;have y4:=KY.out.cell 4;have y5:=KY.out.cell 5;have y6:=KY.out.cell 6;simp at y0 y1 y2 y3 y4 y5 y6
   by_cases hn:0<n
   ·have q2:decide (0<n)=true:=by simpa using hn
    rw[if_pos hn]at NX;clear hn;go_wp2_with (at_builtin;refine aDg _ rfl (.tmp 34) (.tmp 36) rfl w.heap.size _ out rfl (OY.out.alloc _) _ _ { y with lf:=n } rfl (pAA _ _ _) hl2 (by simp;omega) ?_);intro v3 w3 hown3 hgr3;have R2:∀k,Value.ownBlock _=some k→w.heap.size≤k:=fun k hk=>(aAe OY.out hk).1
    have B3:=yH ((BY.out.alloc BY.out.size _).grown hgr3 (by simp;have:=BY.out.size;omega) (fun k hk=>R2 k hk));have O3:=yH (show w3.ownsRow w.heap.size 76 7 v3 (out++[{ y with lf:=n }]).length (aAa (out++[{ y with lf:=n }])) by simpa using hown3);clear R2 hown3 hgr3;go_wp2_with fail;go_roundw
    case rel=>exact⟨k+1,by omega,by go_num,by rw[NX.out];exact O3.out,B3.out⟩
    case measure=>simp[intOf];omega
   have q2:decide (0<n)=false:=by simpa using hn
   rw[if_neg hn,List.append_nil]at NX;clear hn;go_wp2_with fail;go_roundw
   case rel=>exact⟨k+1,by omega,by go_num,by rw[NX.out];exact OY.out,BY.out⟩
   case measure=>simp[intOf];omega
  have q1:(y.se==s)=false:=by simpa using hs
  have hy:y.put s n=y:=by unfold Of.put;rw[if_neg hs]
  rw[hy]at NX;have KY:=yH K0;have OY:=yH (hown.alloc (.cells #[.int .u64 y.se,.int .u8 y.ow,.int .u8 y.sl,.int .u8 y.bu,.int .i64 y.lf,.int .i64 y.nu,.int .i64 y.de] 76));have BY:=yH (hb.trans (A0.mono hb.size));have z0:wr.heap.size+1≤(wr.alloc (.cells #[.int .u64 y.se,.int .u8 y.ow,.int .u8 y.sl,.int .u8 y.bu,.int .i64 y.lf,.int .i64 y.nu,.int .i64 y.de] 76)).heap.size:=by simp
  clear hown hb A0 K0 hs hy rowlt;generalize hW:wr.alloc (.cells #[.int .u64 y.se,.int .u8 y.ow,.int .u8 y.sl,.int .u8 y.bu,.int .i64 y.lf,.int .i64 y.nu,.int .i64 y.de] 76)=Wy at *;have kl:=KY.out.lt;have y0:=KY.out.cell 0;have y1:=KY.out.cell 1;have y2:=KY.out.cell 2;have y3:=KY.out.cell 3;have y4:=KY.out.cell 4;have y5:=KY.out.cell 5;have y6:=KY.out.cell 6;simp at y0 y1 y2 y3 y4 y5 y6
  by_cases hn:0<y.lf
  ·have q2:decide (0<y.lf)=true:=by simpa using hn
   rw[if_pos hn]at NX;clear hn;go_wp2_with (at_builtin;refine aDg _ rfl (.tmp 34) (.tmp 36) rfl w.heap.size _ out rfl (OY.out.alloc _) _ _ y rfl (pAA _ _ _) hl2 (by simp;omega) ?_);intro v3 w3 hown3 hgr3;have R2:∀k,Value.ownBlock _=some k→w.heap.size≤k:=fun k hk=>(aAe OY.out hk).1
   have B3:=yH ((BY.out.alloc BY.out.size _).grown hgr3 (by simp;have:=BY.out.size;omega) (fun k hk=>R2 k hk));have O3:=yH (show w3.ownsRow w.heap.size 76 7 v3 (out++[y]).length (aAa (out++[y])) by simpa using hown3);clear R2 hown3 hgr3;go_wp2_with fail;go_roundw
   case rel=>exact⟨k+1,by omega,by go_num,by rw[NX.out];exact O3.out,B3.out⟩
   case measure=>simp[intOf];omega
  have q2:decide (0<y.lf)=false:=by simpa using hn
  rw[if_neg hn,List.append_nil]at NX;clear hn;go_wp2_with fail;go_roundw
  case rel=>exact⟨k+1,by omega,by go_num,by rw[NX.out];exact OY.out,BY.out⟩
  case measure=>simp[intOf];omega
 have hke:l.take k=l:=List.take_of_length_le (by omega);rw[hke]at hown;have O0:=yH hown;have B0:=yH hb;have HBk:=yH (H.out.blk.below hb hg);have hf:=HBk.out.frozen;obtain⟨ao3,cap3,hv3,_⟩:=aAd O0.out;subst hv3;clear hown hb;go_wp2;go_end0;have kk:Keep (·=g) wr (wr.setCell ⟨g,0,none⟩ (.slice ao3 (setO l s n).length cap3)):=Keep.setCell (S:=(·=g)) (Keep.refl _ _) (p:=⟨g,0,none⟩) (.inl rfl) _;refine⟨rfl,.slice ao3 (setO l s n).length cap3,⟨?_,H.out.ge,?_⟩,(pAE B0.out).trans kk⟩
 ·have:=HBk.out.set 0 (.slice ao3 (setO l s n).length cap3);simpa using this
 exact aAm (aBd O0.out (by have:=H.out.ge;omega)) kk (aAl O0.out HBk.out (by decide))
def cancelV(l:List Of)(ow s:Int):Int:=match aBs l s with|none=>0|some x=>if x.ow=ow then x.lf else 0
def aD7(l:List Of)(s n:Int):Int:=match aBs l s with|none=>7|some x=>if n<1∨x.lf<n then 1 else 0
def aPu(l:List Of)(s:Int):Int:=match aBs l s with|none=>0|some x=>x.lf
def aCo(l:List Of)(s n:Int):List Of:=if aD7 l s n=0 then setO l s (aPu l s - n)else l
theorem aC1{l:List Of}{s:Int}{x:Of}(h:aBs l s=some x):x∈l∧x.se=s:=by
 unfold aBs at h;exact⟨List.mem_of_find?_eq_some h,by have:=List.find?_some h;simpa using this⟩
theorem aPv{w:World}{base g:Nat}{l:List Of}{N:Int}{vl:Value}(h:RefB w base g l N vl)(s n:Int)(hlen:l.length≤1000)(hfit:∀x∈l,x.lf≤9223372036854775807):
  Calls Tryz.prog 94 #[.pointer (some ⟨g,0,none⟩),.int .u64 s,.int .i64 n] w fun e w'=>e=.returned (.int .i64 (aD7 l s n))∧∃vl',RefB w' base g (aCo l s n) N vl'∧Keep (·=g) w w':=by
 have H:=yH h;have C:=yH (aLl h s);clear h
 cases hf:aBs l s with
 | none=>
  have e2:aD7 l s n=7:=by unfold aD7;rw[hf]
  have e3:aCo l s n=l:=by unfold aCo;rw[e2];rfl
  rw[e2,e3];rw[hf]at C;dsimp only[aHn,Of.val,noOf]at C;clear e2 e3 hf hfit;go_enter Tryz.func94,Tryz.ntmps94;go_wp2_with fail;refine C.out.mono ?_;rintro e w1 ⟨rfl,b1⟩;have B2:=yH (b1.alloc b1.size (.cells #[.int .u64 0,.int .u8 0,.int .u8 0,.int .u8 0,.int .i64 0,.int .i64 0,.int .i64 0] 76));clear b1;go_wp2_with fail;go_ret;exact⟨rfl,vl,H.out.below B2.out,pAE B2.out⟩
 | some x=>
  have hxf:=hfit x (aC1 hf).1;clear hfit;rw[hf]at C;dsimp only[aHn,Of.val]at C
  by_cases h1:n<1
  ·have e2:aD7 l s n=1:=by unfold aD7;rw[hf];exact if_pos (.inl h1)
   have e3:aCo l s n=l:=by unfold aCo;rw[e2];rfl
   rw[e2,e3];clear e2 e3 hf hxf;go_enter Tryz.func94,Tryz.ntmps94;go_wp2_with fail;refine C.out.mono ?_;rintro e w1 ⟨rfl,b1⟩;have B2:=yH (b1.alloc b1.size (.cells #[.int .u64 x.se,.int .u8 x.ow,.int .u8 x.sl,.int .u8 x.bu,.int .i64 x.lf,.int .i64 x.nu,.int .i64 x.de] 76));clear b1;go_wp2_with fail;go_ret;exact⟨rfl,vl,H.out.below B2.out,pAE B2.out⟩
  by_cases h2:x.lf<n
  ·have e2:aD7 l s n=1:=by unfold aD7;rw[hf];exact if_pos (.inr h2)
   have e3:aCo l s n=l:=by unfold aCo;rw[e2];rfl
   rw[e2,e3];clear e2 e3 hf hxf;go_enter Tryz.func94,Tryz.ntmps94;go_wp2_with fail;refine C.out.mono ?_;rintro e w1 ⟨rfl,b1⟩;have B2:=yH (b1.alloc b1.size (.cells #[.int .u64 x.se,.int .u8 x.ow,.int .u8 x.sl,.int .u8 x.bu,.int .i64 x.lf,.int .i64 x.nu,.int .i64 x.de] 76));clear b1;go_wp2_with fail;go_ret;exact⟨rfl,vl,H.out.below B2.out,pAE B2.out⟩
  have e2:aD7 l s n=0:=by unfold aD7;rw[hf];exact if_neg (by omega)
  have e3:aCo l s n=setO l s (x.lf - n):=by unfold aCo aPu;rw[if_pos e2,hf]
  rw[e2,e3];have hw:Hid (wrap64 (x.lf - n)=x.lf - n):=yH (aB7 _ ⟨by omega,by omega⟩);clear e2 e3 hf;go_enter Tryz.func94,Tryz.ntmps94;go_wp2_with fail;refine C.out.mono ?_;rintro e w1 ⟨rfl,b1⟩;have B2:=yH (b1.alloc b1.size (.cells #[.int .u64 x.se,.int .u8 x.ow,.int .u8 x.sl,.int .u8 x.bu,.int .i64 x.lf,.int .i64 x.nu,.int .i64 x.de] 76));have CS:=yH (fun m=>bset_any (H.out.below B2.out) s m hlen);clear b1 C;go_wp2_with fail;refine(CS.out _).mono ?_;rintro e w2 ⟨rfl,vl2,hr2,k2⟩;have K2:=yH ((pAE B2.out).trans k2)
  first|rw[hw.out]at hr2|skip
  have R2:=yH hr2;clear hr2 k2 CS;go_wp2_with fail;go_ret;exact⟨rfl,vl2,R2.out,K2.out⟩
def aH2(W:World)(base:Nat)(l:List Of)(N:Int)(s:Value×Nat)(D:Nat→Bool)(w:World):Prop:=
 Below W.heap.size W w∧(D 4=true→w.ownsRow base 76 7 s.1 l.length (aAa l)∧∀b,s.1.ownBlock=some b→W.heap.size≤b)∧(D 10=true→W.heap.size≤s.2∧Blk w s.2 #[s.1,.int .u64 N] 145)
theorem aH2.step{W w w':World}{base:Nat}{l:List Of}{N:Int}{s:Value×Nat}{D:Nat→Bool}{k:Nat}(h:aH2 W base l N s D w)(hb:Below w.heap.size w w')(h4:k≠4)(h10:k≠10):aH2 W base l N s (ins k D) w':=by
 obtain⟨b,p,q⟩:=h;have e4:¬4=k:=fun e=>h4 e.symm
 have e10:¬10=k:=fun e=>h10 e.symm
 refine⟨b.trans (hb.mono b.size),fun d=>?_,fun d=>?_⟩
 ·simp[ins,e4]at d;exact⟨aAc (p d).1 hb,(p d).2⟩
 simp[ins,e10]at d;exact⟨(q d).1,(q d).2.below hb (q d).2.lt⟩
theorem aH2.boxed{W w:World}{base:Nat}{l:List Of}{N:Int}{s:Value×Nat}{D:Nat→Bool}(h:aH2 W base l N s D w)(hP:D 4=true):aH2 W base l N (s.1,w.heap.size) (ins 10 D) (w.alloc (.cells #[s.1,.int .u64 N] 145)):=by
 obtain⟨b,p,q⟩:=h;have hb:=(Below.refl w.heap.size w).alloc yL (.cells #[s.1,.int .u64 N] 145);exact⟨b.trans (hb.mono b.size),fun _=>⟨aAc (p hP).1 hb,(p hP).2⟩,fun _=>⟨b.size,pAA _ _ _⟩⟩
def CopyBPost(base:Nat)(l:List Of)(N:Int)(w:World)(e:Ending)(w':World):Prop:=
 ∃g' vl',e=.returned (.pointer (some ⟨g',0,none⟩))∧RefB w' base g' l N vl'∧w.heap.size≤g'∧(∀b,vl'.ownBlock=some b→w.heap.size≤b)∧Below w.heap.size w w'
theorem bcopy_any{w:World}{base g:Nat}{l:List Of}{N:Int}{vl:Value}(h:RefB w base g l N vl)(hl:l.length≤1000):
  Calls Tryz.prog 88 #[.pointer (some ⟨g,0,none⟩)] w (CopyBPost base l N w):=by
 have H:=yH h;have hg:=h.blk.lt;have hbase0:=h.ge;clear h;go_enter Tryz.func88,Tryz.ntmps88;go_wp2_with fail
 refine aA4 (by kernel_rfl) (fun s:Value×Nat=>[(.pointer (some ⟨g,0,none⟩)),(.pointer (some ⟨g,0,none⟩)),(.pointer (some ⟨g,0,none⟩)),vl,s.1,(.pointer (some ⟨g,0,none⟩)),(.pointer (some ⟨g,0,none⟩)),(.pointer (some ⟨g,1,none⟩)),(.int .u64 N),(.agg #[s.1,.int .u64 N]),(.pointer (some ⟨s.2,0,none⟩)),(.pointer (some ⟨s.2,0,none⟩))])
  (aH2 w base l N) (by kernel_rfl) (undef,0) ⟨yZ.drew,by simp,by simp⟩ ?_
 intro AF hAF;simp only[puts,Act.put,yA,yC,yF,yD,yE]at hAF;have hAF2:_=AF:=funext hAF;subst hAF2;clear hAF;refine⟨?_,?_⟩
 ·simp only[aEr];refine⟨?_,?_,?_,?_,?_,?_,?_,?_,?_,?_,?_,?_,trivial⟩
  ·intro s D w' hD hW hC hI;refine⟨s,fun _ _ _=>rfl,?_⟩;with_reducible refine yO rfl ?_
   have hI':=yH (hI.step yZ (k:=0) (by decide) (by decide));have hg':g<w'.heap.size:=yM hg hI.1.size;clear hI hC hW hD;go_wp2_with fail;all_goals first|exact hI'|exact⟨rfl,hI'⟩|rfl
  ·intro s D w' hD hW hC hI;refine⟨s,fun _ _ _=>rfl,?_⟩;with_reducible refine yO rfl ?_
   have hI':=yH (hI.step yZ (k:=1) (by decide) (by decide));have hg':g<w'.heap.size:=yM hg hI.1.size;clear hI hC hW hD;go_wp2_with fail;all_goals first|exact hI'|exact⟨rfl,hI'⟩|rfl
  ·intro s D w' hD hW hC hI;refine⟨s,fun _ _ _=>rfl,?_⟩;with_reducible refine yO rfl ?_
   have hI':=yH (hI.step yZ (k:=2) (by decide) (by decide));have hg':g<w'.heap.size:=yM hg hI.1.size;clear hI hC hW hD;go_wp2_with fail;all_goals first|exact hI'|exact⟨rfl,hI'⟩|rfl
  ·intro s D w' hD hW hC hI;refine⟨s,fun _ _ _=>rfl,?_⟩;with_reducible refine yO rfl ?_
   have hI':=yH (hI.step yZ (k:=3) (by decide) (by decide));have hg':g<w'.heap.size:=yM hg hI.1.size;have d0:=(H.out.blk.below hI.1 hg).cell 0;simp at d0;clear hI hC hW hD;go_wp2_with fail;all_goals first|exact hI'|exact⟨rfl,hI'⟩|rfl
  ·intro s D w' hD hW hC hI;have hN:D 9=false:=aAq hC hD 9 (by kernel_rfl);have hN2:D 10=false:=aAq hC hD 10 (by kernel_rfl);have hN3:D 11=false:=aAq hC hD 11 (by kernel_rfl);obtain⟨v',w2,hrun,how,hbel⟩:=aCw (P:=Tryz.prog) (w:=w') 23 23 76 aI5 Tryz.underlying23 rfl (by decide) (by decide) base _ _ _ (aAc H.out.row hI.1) (aCx l) (by omega);refine⟨(v',s.2),?_,?_⟩
   ·intro j hj hDj
    match j,hj,hDj with
    | 0,_,_=>rfl
    | 1,_,_=>rfl
    | 2,_,_=>rfl
    | 3,_,_=>rfl
    | 4,_,h=>simp_all
    | 5,_,_=>rfl
    | 6,_,_=>rfl
    | 7,_,_=>rfl
    | 8,_,_=>rfl
    | 9,_,h=>simp_all
    | 10,_,_=>rfl
    | 11,_,_=>rfl
    | j+12,_,_=>rfl
   with_reducible refine yO rfl ?_
   refine aE6 (.tmp 6) 23 rfl rfl hrun ⟨rfl,?_⟩;have hw:=hI.1.size;have hh:∀b,v'.ownBlock=some b→w.heap.size≤b:=fun b hb=>Nat.le_trans hw (aAe how hb).1
   obtain⟨q1,q2,q3⟩:=hI;refine⟨q1.trans (hbel.mono q1.size),fun _=>⟨aBd how (Nat.le_trans hbase0 (Nat.le_trans (Nat.le_of_lt hg) hw)),hh⟩,fun d=>?_⟩;simp[ins,hN2]at d
  ·intro s D w' hD hW hC hI;refine⟨s,fun _ _ _=>rfl,?_⟩;with_reducible refine yO rfl ?_
   have hI':=yH (hI.step yZ (k:=5) (by decide) (by decide));have hg':g<w'.heap.size:=yM hg hI.1.size;clear hI hC hW hD;go_wp2_with fail;all_goals first|exact hI'|exact⟨rfl,hI'⟩|rfl
  ·intro s D w' hD hW hC hI;refine⟨s,fun _ _ _=>rfl,?_⟩;with_reducible refine yO rfl ?_
   have hI':=yH (hI.step yZ (k:=6) (by decide) (by decide));have hg':g<w'.heap.size:=yM hg hI.1.size;clear hI hC hW hD;go_wp2_with fail;all_goals first|exact hI'|exact⟨rfl,hI'⟩|rfl
  ·intro s D w' hD hW hC hI;refine⟨s,fun _ _ _=>rfl,?_⟩;with_reducible refine yO rfl ?_
   have hI':=yH (hI.step yZ (k:=7) (by decide) (by decide));have hg':g<w'.heap.size:=yM hg hI.1.size;clear hI hC hW hD;go_wp2_with fail;all_goals first|exact hI'|exact⟨rfl,hI'⟩|rfl
  ·intro s D w' hD hW hC hI;refine⟨s,fun _ _ _=>rfl,?_⟩;with_reducible refine yO rfl ?_
   have hI':=yH (hI.step yZ (k:=8) (by decide) (by decide));have hg':g<w'.heap.size:=yM hg hI.1.size;have d0:=(H.out.blk.below hI.1 hg).cell 1;simp at d0;clear hI hC hW hD;go_wp2_with fail;all_goals first|exact hI'|exact⟨rfl,hI'⟩|rfl
  ·intro s D w' hD hW hC hI;have hP:D 4=true:=aBx hC hW (by kernel_rfl);refine⟨s,fun _ _ _=>rfl,?_⟩;with_reducible refine yO rfl ?_
   have HS:=yH (hI.step yZ (k:=9) (by decide) (by decide));obtain⟨ao,cap,hv,_⟩:=aAd (hI.2.1 hP).1;clear hC hW hD hP hI;obtain⟨s1,s2⟩:=s;dsimp only at hv HS ⊢;subst hv;go_wp2_with fail;all_goals first|exact HS|exact⟨rfl,HS⟩|rfl
  ·intro s D w' hD hW hC hI;have hP:D 4=true:=aBx hC hW (by kernel_rfl);have hN3:D 11=false:=aAq hC hD 11 (by kernel_rfl);refine⟨(s.1,w'.heap.size),?_,?_⟩
   ·intro j hj hDj
    match j,hj,hDj with
    | 0,_,_=>rfl
    | 1,_,_=>rfl
    | 2,_,_=>rfl
    | 3,_,_=>rfl
    | 4,_,_=>rfl
    | 5,_,_=>rfl
    | 6,_,_=>rfl
    | 7,_,_=>rfl
    | 8,_,_=>rfl
    | 9,_,_=>rfl
    | 10,_,h=>simp_all
    | 11,_,h=>simp_all
    | j+12,_,_=>rfl
   with_reducible refine yO rfl ?_
   have HS:=yH (hI.boxed hP);obtain⟨q1,q2,q3⟩:=hI;obtain⟨ao,cap,hv,_⟩:=aAd (q2 hP).1;clear hC hW hD q1 q2 q3 hP hN3;obtain⟨s1,s2⟩:=s;dsimp only at hv HS ⊢;subst hv;go_wp2_with fail;all_goals first|exact HS|exact⟨rfl,HS⟩|rfl
  intro s D w' hD hW hC hI;refine⟨s,fun _ _ _=>rfl,?_⟩;with_reducible refine yO rfl ?_
  have hI':=yH (hI.step yZ (k:=11) (by decide) (by decide));have hg':g<w'.heap.size:=yM hg hI.1.size;clear hI hC hW hD;go_wp2_with fail;all_goals first|exact hI'|exact⟨rfl,hI'⟩|rfl
 intro s D w2 hall hI;obtain⟨q1,q2,q3⟩:=hI;have Q1:=yH q1;have Q2:=yH (q2 (hall 4 (by decide)));have Q3:=yH (q3 (hall 10 (by decide)));clear q1 q2 q3 hall;dsimp only;go_wp2_with fail;go_ret;exact⟨s.2,s.1,rfl,⟨Q3.out.2,Nat.le_trans hbase0 (Nat.le_trans (Nat.le_of_lt hg) Q3.out.1),Q2.out.1⟩,Q3.out.1,Q2.out.2,Q1.out⟩
structure PB(w:World)(base g:Nat)(l:List Of)(N:Int)(vl:Value):Prop where
 blk:Blk w g #[vl,.int .u64 N] 64
 ge:base≤g
 row:w.ownsRow base 126 7 vl l.length (aAa l)
def Foot(g:Nat)(vl:Value)(b:Nat):Prop:=b=g∨vl.ownBlock=some b
def aGu(w:World)(vl vl':Value):Prop:=∀b,vl'.ownBlock=some b→vl.ownBlock=some b∨w.heap.size≤b
theorem aGu.refl(w:World)(vl:Value):aGu w vl vl:=fun _ h=>.inl h
theorem aGu.of_le{w w':World}{vl vl':Value}(h:aGu w' vl vl')(hle:w.heap.size≤w'.heap.size):aGu w vl vl':=fun b hb=>(h b hb).imp id (fun q=>Nat.le_trans hle q)
theorem PB.keep{S:Nat→Prop}{w w':World}{base g:Nat}{l:List Of}{N:Int}{vl:Value}(h:PB w base g l N vl)(k:Keep S w w')(h1:¬S g)(h2:∀b,vl.ownBlock=some b→¬S b):PB w' base g l N vl:=⟨h.blk.keep k h1,h.ge,aAm h.row k h2⟩
theorem PB.below{w w':World}{base g:Nat}{l:List Of}{N:Int}{vl:Value}(h:PB w base g l N vl)(k:Below w.heap.size w w'):PB w' base g l N vl:=h.keep (pAE (S:=fun _=>False) k) id (fun _ _=>id)
theorem PB.lt{w:World}{base g:Nat}{l:List Of}{N:Int}{vl:Value}(h:PB w base g l N vl){b:Nat}(hb:Foot g vl b):base≤b∧b<w.heap.size:=by
 rcases hb with rfl|hb
 ·exact⟨h.ge,h.blk.lt⟩
 exact⟨(aAe h.row hb).1,(aAe h.row hb).2.1⟩
theorem PB.apart{w:World}{base g:Nat}{l:List Of}{N:Int}{vl:Value}(h:PB w base g l N vl):∀b,vl.ownBlock=some b→b≠g:=aAl h.row h.blk (by decide)
structure BInv(l:List Of)(N:Int):Prop where
 may:∀x∈l,x.may
 rise:l.Pairwise fun x y=>x.se<y.se
 bd:∀x∈l,1≤x.se∧x.se<N
 len:l.length≤32
 n1:1≤N
 n2:N≤18446744073709551615
theorem BInv.nil{N:Int}(h1:1≤N)(h2:N≤18446744073709551615):BInv [] N:=⟨by simp,List.Pairwise.nil,by simp,by simp,h1,h2⟩
theorem Of.may.fits{x:Of}(h:x.may)(h1:0≤x.se∧x.se≤18446744073709551615):x.Fits:=by
 obtain⟨⟨a1,a2⟩,⟨b1,b2⟩,⟨c1,c2⟩,_,⟨d1,d2⟩,e⟩:=h;obtain⟨r1,r2,r3,r4,_⟩:=aE2 e;exact⟨h1,⟨by omega,by omega⟩,⟨by omega,by omega⟩,⟨by omega,by omega⟩,⟨by omega,by omega⟩,⟨by omega,by omega⟩,⟨by omega,by omega⟩⟩
theorem BInv.fits{l:List Of}{N:Int}(h:BInv l N){x:Of}(hx:x∈l):x.Fits:=by
 have:=h.bd x hx;have:=h.n2;exact(h.may x hx).fits ⟨by omega,by omega⟩
theorem aPw(c:Int)(w:World):
  Calls Tryz.prog 129 #[.int .u8 c] w fun e w'=>e=.returned (.bool (decide (1≤c∧c≤8)))∧w'=w:=by
 by_cases h1:1≤c
 ·have e1:decide (1≤c)=true:=by simpa using h1
  by_cases h2:c≤8
  ·rw[decide_eq_true ⟨h1,h2⟩];have e2:decide (c≤8)=true:=by simpa using h2
   clear h1 h2;go_enter Tryz.func129,Tryz.ntmps129;go_wp2;go_ret;exact⟨rfl,rfl⟩
  rw[decide_eq_false (fun k=>h2 k.2)];have e2:decide (c≤8)=false:=by simpa using h2
  clear h1 h2;go_enter Tryz.func129,Tryz.ntmps129;go_wp2;go_ret;exact⟨rfl,rfl⟩
 rw[decide_eq_false (fun k=>h1 k.1)];have e1:decide (1≤c)=false:=by simpa using h1
 clear h1;go_enter Tryz.func129,Tryz.ntmps129;go_wp2;go_ret;exact⟨rfl,rfl⟩
theorem pmay_any(x:Of)(w:World)(hf:x.Fits):
  Calls Tryz.prog 74 #[.agg #[.int .u64 x.se,.int .u8 x.ow,.int .u8 x.sl,.int .u8 x.bu,.int .i64 x.lf,.int .i64 x.nu,.int .i64 x.de]] w (yR w (.bool (decide x.may))):=by
 have B0:=yH ((Below.refl w.heap.size w).alloc yL (.cells #[.int .u64 x.se,.int .u8 x.ow,.int .u8 x.sl,.int .u8 x.bu,.int .i64 x.lf,.int .i64 x.nu,.int .i64 x.de] 126));have C:=yH (fun w=>aLj x.nu x.de w hf.nu hf.de);have C1:=yH (fun w=>aPw x.sl w);have C2:=yH (fun w=>aPw x.bu w);clear hf
 by_cases h0:¬1≤x.ow
 ·rw[decide_eq_false (fun k:x.may=>by have:=k.1;omega)];clear C C1 C2;have e1:decide (1≤x.ow)=false:=by simpa using h0
  clear h0;go_enter Tryz.func74,Tryz.ntmps74;go_wp2_with fail;go_ret;exact⟨rfl,B0.out⟩
 have h0:=Decidable.not_not.1 h0;have e1:decide (1≤x.ow)=true:=by simpa using h0
 by_cases h1:¬x.ow≤16
 ·rw[decide_eq_false (fun k:x.may=>by have:=k.1;omega)];clear C C1 C2;have e2:decide (x.ow≤16)=false:=by simpa using h1
  clear h0 h1;go_enter Tryz.func74,Tryz.ntmps74;go_wp2_with fail;go_ret;exact⟨rfl,B0.out⟩
 have h1:=Decidable.not_not.1 h1;have e2:decide (x.ow≤16)=true:=by simpa using h1
 by_cases h2:¬(1≤x.sl∧x.sl≤8)
 ·rw[decide_eq_false (fun k:x.may=>h2 k.2.1)];rw[decide_eq_false h2]at C1;clear C C2 h0 h1 h2;go_enter Tryz.func74,Tryz.ntmps74;go_wp2_with fail;refine(C1.out _).mono ?_;rintro e w1 ⟨rfl,rfl⟩;go_wp2_with fail;go_ret;exact⟨rfl,B0.out⟩
 have h2:=Decidable.not_not.1 h2;rw[decide_eq_true h2]at C1
 by_cases h3:¬(1≤x.bu∧x.bu≤8)
 ·rw[decide_eq_false (fun k:x.may=>h3 k.2.2.1)];rw[decide_eq_false h3]at C2;clear C h0 h1 h2 h3;go_enter Tryz.func74,Tryz.ntmps74;go_wp2_with fail;refine(C1.out _).mono ?_;rintro e w1 ⟨rfl,rfl⟩;go_wp2_with fail;refine(C2.out _).mono ?_;rintro e w1 ⟨rfl,rfl⟩;go_wp2_with fail;go_ret;exact⟨rfl,B0.out⟩
 have h3:=Decidable.not_not.1 h3;rw[decide_eq_true h3]at C2
 by_cases h4:x.sl=x.bu
 ·rw[decide_eq_false (fun k:x.may=>k.2.2.2.1 h4)];have e3:(x.sl==x.bu)=true:=by simpa using h4
  have e4:(x.sl != x.bu)=false:=by simpa using h4
  clear C h0 h1 h2 h3 h4;go_enter Tryz.func74,Tryz.ntmps74;go_wp2_with fail;refine(C1.out _).mono ?_;rintro e w1 ⟨rfl,rfl⟩;go_wp2_with fail;refine(C2.out _).mono ?_;rintro e w1 ⟨rfl,rfl⟩;go_wp2_with fail;go_ret;exact⟨rfl,B0.out⟩
 have e3:(x.sl==x.bu)=false:=by simpa using h4
 have e4:(x.sl != x.bu)=true:=by simpa using h4
 by_cases h5:¬1≤x.lf
 ·rw[decide_eq_false (fun k:x.may=>by have:=k.2.2.2.2.1;omega)];have e5:decide (1≤x.lf)=false:=by simpa using h5
  clear C h0 h1 h2 h3 h4 h5;go_enter Tryz.func74,Tryz.ntmps74;go_wp2_with fail;refine(C1.out _).mono ?_;rintro e w1 ⟨rfl,rfl⟩;go_wp2_with fail;refine(C2.out _).mono ?_;rintro e w1 ⟨rfl,rfl⟩;go_wp2_with fail;go_ret;exact⟨rfl,B0.out⟩
 have h5:=Decidable.not_not.1 h5;have e5:decide (1≤x.lf)=true:=by simpa using h5
 by_cases h6:¬x.lf≤1099511627776
 ·rw[decide_eq_false (fun k:x.may=>by have:=k.2.2.2.2.1;omega)];have e6:decide (x.lf≤1099511627776)=false:=by simpa using h6
  clear C h0 h1 h2 h3 h4 h5 h6;go_enter Tryz.func74,Tryz.ntmps74;go_wp2_with fail;refine(C1.out _).mono ?_;rintro e w1 ⟨rfl,rfl⟩;go_wp2_with fail;refine(C2.out _).mono ?_;rintro e w1 ⟨rfl,rfl⟩;go_wp2_with fail;go_ret;exact⟨rfl,B0.out⟩
 have h6:=Decidable.not_not.1 h6;have e6:decide (x.lf≤1099511627776)=true:=by simpa using h6
 have hd:decide x.may=mayB x.nu x.de:=by
  cases hb:mayB x.nu x.de with
  | true=>exact decide_eq_true ⟨⟨h0,h1⟩,h2,h3,h4,⟨h5,h6⟩,hb⟩
  | false=>exact decide_eq_false (fun k=>by have:=k.2.2.2.2.2;rw[hb]at this;cases this)
 rw[hd];clear hd h0 h1 h2 h3 h4 h5 h6;generalize mayB x.nu x.de=r at *;go_enter Tryz.func74,Tryz.ntmps74;go_wp2_with fail;refine(C1.out _).mono ?_;rintro e w1 ⟨rfl,rfl⟩;go_wp2_with fail;refine(C2.out _).mono ?_;rintro e w1 ⟨rfl,rfl⟩;go_wp2_with fail;refine(C.out _).mono ?_;rintro e w1 ⟨rfl,b1⟩;have B1:=yT B0 b1;clear b1 C B0;go_wp2_with fail;go_ret;exact⟨rfl,B1.out⟩
theorem pnew_any(w:World)(base:Nat)(hb:base≤w.heap.size):
  Calls Tryz.prog 18 #[] w fun e w'=>e=.returned (.pointer (some ⟨w.heap.size,0,none⟩))∧PB w' base w.heap.size [] 1 (.slice none 0 0)∧Below w.heap.size w w':=by
 have K:=yH (pAA w #[.slice none 0 0,.int .u64 1] 64);go_enter Tryz.func18,Tryz.ntmps18;go_wp2;go_ret;exact⟨rfl,⟨K.out,hb,World.ownsRow_nil _ _ _ _⟩,yZ.alloc yL _⟩
theorem aIq{w:World}{g:Nat}{vl:Value}{N:Int}(h:Blk w g #[vl,.int .u64 N] 64):
  Calls Tryz.prog 72 #[.pointer (some ⟨g,0,none⟩)] w (yS w (.int .u64 N)):=by
 have hl:=h.lt;have d1:=h.cell 1;simp at d1;clear h;go_enter Tryz.func72,Tryz.ntmps72;go_wp2;go_ret;exact⟨rfl,rfl⟩
theorem aLm{w:World}{g:Nat}{vl:Value}{N:Int}(h:Blk w g #[vl,.int .u64 N] 64)(h1:1≤N):
  Calls Tryz.prog 73 #[.pointer (some ⟨g,0,none⟩)] w (yS w (.bool true)):=by
 have C:=yH (aIq h);have e1:(N==0)=false:=by simp;omega
 have e2:(N != 0)=true:=by simp;omega
 clear h h1;go_enter Tryz.func73,Tryz.ntmps73;go_wp2_with fail;refine C.out.mono ?_;rintro e w ⟨rfl,rfl⟩;go_wp2_with fail;go_ret;exact⟨rfl,rfl⟩
theorem ball_any{w:World}{g:Nat}{ao:Option Addr}{n c:Nat}{N:Int}(h:Blk w g #[.slice ao n c,.int .u64 N] 64):
  Calls Tryz.prog 60 #[.pointer (some ⟨g,0,none⟩)] w (yS w (.slice ao n c)):=by
 have hl:=h.lt;have d1:=h.cell 0;simp at d1;clear h;go_enter Tryz.func60,Tryz.ntmps60;go_wp2;go_ret;exact⟨rfl,rfl⟩
end Go.Proofs.YtojbmnbphdcjfaaGreat
