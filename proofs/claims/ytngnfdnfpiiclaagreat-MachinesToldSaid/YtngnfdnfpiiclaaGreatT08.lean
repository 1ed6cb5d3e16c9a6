/- Pieces of one proof. -/
import Derived.Test.YtngnfdnfpiiclaaGreatT07
import Derived.Lib.SliceRun
set_option linter.all false
set_option maxHeartbeats 64000000
set_option maxRecDepth 100000
namespace Go.Proofs.YtngnfdnfpiiclaaGreat
open Go.RowKit
theorem up_le(y num n den:Int)(hy:0≤y)(hn:0≤n)(h1:1≤num)(h2:1≤den)(hn2:n≤9223372036854775807):
  (upN (y*num) den≤n)↔y≤n*den/num:=by
 rw[Int.le_ediv_iff_mul_le zQ];generalize y*num=x;have hm:=Int.emod_nonneg x (show den≠0 by omega);have hm2:=Int.emod_lt_of_pos x (show 0<den by omega);have hd:=Int.mul_ediv_add_emod x den;rw[Int.mul_comm n];unfold upN;generalize x/den=q at *;generalize x%den=r at *;split
 ·constructor
  ·intro h;have:=Int.mul_le_mul_of_nonneg_left h (show 0≤den by omega);omega
  intro h;rcases Int.lt_or_le n q with k|k
  ·have:=Int.mul_le_mul_of_nonneg_left (show n+1≤q by omega) (show 0≤den by omega);rw[Int.mul_add]at this;omega
  exact k
 constructor
 ·intro h;have:=Int.mul_le_mul_of_nonneg_left h (show 0≤den by omega);rw[Int.mul_add]at this;omega
 intro h;rcases Int.lt_or_le q n with k|k
 ·omega
 have:=Int.mul_le_mul_of_nonneg_left k (show 0≤den by omega);omega
def Of.may(x:Of):Prop:=(1≤x.ow∧x.ow≤16)∧(1≤x.sl∧x.sl≤8)∧(1≤x.bu∧x.bu≤8)∧x.sl≠x.bu∧(1≤x.lf∧x.lf≤1099511627776)∧mayB x.nu x.de=true
instance(x:Of):Decidable x.may:=by unfold Of.may;infer_instance
def aBd(l:List Of)(s:Int):Option Of:=l.find? fun x=>x.se==s
def noOf:Of:=⟨0,0,0,0,0,0,0⟩
def aQv(o:Option Of):Value:=match o with|some x=>.tuple #[x.val,.bool true]|none=>.tuple #[noOf.val,.bool false]
theorem findO_none{l:List Of}{s:Int}(hn:∀x∈l,(x.se==s)=false):aBd l s=none:=by
 unfold aBd;rw[List.find?_eq_none];intro x hx;simp[hn x hx]
theorem aJb{q:Of→Prop}{l:List Of}{k:Nat}(h:k<l.length)(hn:∀x∈l.take k,q x)(hx:q l[k]):∀x∈l.take (k+1),q x:=by
 rw[List.take_succ_eq_append_getElem h];intro x hx';rcases List.mem_append.1 hx' with h1|h1
 ·exact hn x h1
 rw[List.mem_singleton]at h1;rw[h1];exact hx
theorem aCv{w:World}{b:Nat}{ls:List Of}(h:∀j,j<ls.length*7→w.cell? ⟨b,j,none⟩=(aAb ls)[j]?){k:Nat}(hk:k<ls.length):
  w.cell? ⟨b,k*7,none⟩=some (.int .u64 ls[k].se)∧w.cell? ⟨b,k*7+1,none⟩=some (.int .u8 ls[k].ow)∧w.cell? ⟨b,k*7+2,none⟩=some (.int .u8 ls[k].sl)∧w.cell? ⟨b,k*7+3,none⟩=some (.int .u8 ls[k].bu)∧w.cell? ⟨b,k*7+4,none⟩=some (.int .i64 ls[k].lf)∧w.cell? ⟨b,k*7+5,none⟩=some (.int .i64 ls[k].nu)∧w.cell? ⟨b,k*7+6,none⟩=some (.int .i64 ls[k].de):=by
 refine⟨?_,?_,?_,?_,?_,?_,?_⟩
 ·exact(h (k*7+0) zQ).trans (aAh ls k 0 zQ hk)
 ·exact(h (k*7+1) zQ).trans (aAh ls k 1 zQ hk)
 ·exact(h (k*7+2) zQ).trans (aAh ls k 2 zQ hk)
 ·exact(h (k*7+3) zQ).trans (aAh ls k 3 zQ hk)
 ·exact(h (k*7+4) zQ).trans (aAh ls k 4 zQ hk)
 ·exact(h (k*7+5) zQ).trans (aAh ls k 5 zQ hk)
 exact(h (k*7+6) zQ).trans (aAh ls k 6 zQ hk)
theorem aAa{P:Program}{ops:Array Oper}{rest:List Oper}{o:Oper}{a:Act}{w:World}{Q:Exit→Act→World→Prop}(hgd:o.guard=none)(ty:TypeId)(x y:Operand)(ho:o.op=.store ty x y)
  (g:Nat)(cells:Array Value)(hx:a.eval x=.pointer (some ⟨g,0,none⟩))(hy:a.eval y=.agg cells)
  (t:TypeId)(old:Array Value)(hg:w.heap[g]? = some (.cells old t (0,0)))(hi:(P.info? ty).map (·.size)=some cells.size)
  (hold:old.size=cells.size)(h1:cells.all (·.oneCell')=true)
  (h:wpList P ops Q rest (a.put o.dst undef) (w.setRow g cells)):wpList P ops Q (o::rest) a w:=
 wpList_plain hgd fun _ hK=>wp_store_row ty x y ho g cells hx hy t old hg hi hold h1 (hK _ _ h)
def Of.put(s n:Int)(x:Of):Of:=if x.se=s then{ x with lf:=n }else x
def setO(l:List Of)(s n:Int):List Of:=(l.map (Of.put s n)).filter fun x=>decide (0<x.lf)
theorem setO_len(l:List Of)(s n:Int):(setO l s n).length≤l.length:=by
 unfold setO;exact Nat.le_trans (List.length_filter_le _ _) zV
def aDs(l:List Of)(ow s:Int):Int:=match aBd l s with|none=>0|some x=>if x.ow=ow then x.lf else 0
def aCa(l:List Of)(ow s:Int):Int:=match aBd l s with|none=>7|some x=>if x.ow=ow then 0 else 15
def aDt(l:List Of)(ow s:Int):List Of:=if aCa l ow s=0 then setO l s 0 else l
def aGu(l:List Of)(s n:Int):Int:=match aBd l s with|none=>7|some x=>if n<1∨x.lf<n then 1 else 0
def aK6(l:List Of)(s:Int):Int:=match aBd l s with|none=>0|some x=>x.lf
def aDv(l:List Of)(s n:Int):List Of:=if aGu l s n=0 then setO l s (aK6 l s - n)else l
theorem aCd{l:List Of}{s:Int}{x:Of}(h:aBd l s=some x):x∈l∧x.se=s:=by
 unfold aBd at h;exact⟨List.mem_of_find?_eq_some h,by have:=List.find?_some h;simpa using this⟩
structure PB(w:World)(base g:Nat)(l:List Of)(N:Int)(vl:Value):Prop where
 blk:Blk w g #[vl,.int .u64 N] 158
 ge:base≤g
 row:w.ownsRow base 197 7 vl l.length (aAb l)
def Foot(g:Nat)(vl:Value)(b:Nat):Prop:=b=g∨vl.ownBlock=some b
def aEj(w:World)(vl vl':Value):Prop:=∀b,vl'.ownBlock=some b→vl.ownBlock=some b∨w.heap.size≤b
theorem aEj.refl(w:World)(vl:Value):aEj w vl vl:=fun _ h=>.inl h
theorem aEj.of_le{w w':World}{vl vl':Value}(h:aEj w' vl vl')(hle:w.heap.size≤w'.heap.size):aEj w vl vl':=fun b hb=>(h b hb).imp id (fun q=>Nat.le_trans hle q)
theorem PB.keep{S:Nat→Prop}{w w':World}{base g:Nat}{l:List Of}{N:Int}{vl:Value}(h:PB w base g l N vl)(k:Keep S w w')(h1:¬S g)(h2:∀b,vl.ownBlock=some b→¬S b):PB w' base g l N vl:=⟨h.blk.keep k h1,h.ge,aBr h.row k h2⟩
theorem PB.below{w w':World}{base g:Nat}{l:List Of}{N:Int}{vl:Value}(h:PB w base g l N vl)(k:Below w.heap.size w w'):PB w' base g l N vl:=h.keep (pAD (S:=fun _=>False) k) id (fun _ _=>id)
theorem PB.lt{w:World}{base g:Nat}{l:List Of}{N:Int}{vl:Value}(h:PB w base g l N vl){b:Nat}(hb:Foot g vl b):base≤b∧b<w.heap.size:=by
 rcases hb with rfl|hb
 ·exact⟨h.ge,h.blk.lt⟩
 exact⟨(aAe h.row hb).1,(aAe h.row hb).2.1⟩
theorem PB.apart{w:World}{base g:Nat}{l:List Of}{N:Int}{vl:Value}(h:PB w base g l N vl):∀b,vl.ownBlock=some b→b≠g:=aB1 h.row h.blk zX
structure BInv(l:List Of)(N:Int):Prop where
 may:∀x∈l,x.may
 rise:l.Pairwise fun x y=>x.se<y.se
 bd:∀x∈l,1≤x.se∧x.se<N
 len:l.length≤32
 n1:1≤N
 n2:N≤18446744073709551615
theorem BInv.nil{N:Int}(h1:1≤N)(h2:N≤18446744073709551615):BInv [] N:=⟨zV,List.Pairwise.nil,zV,zV,h1,h2⟩
theorem Of.may.fits{x:Of}(h:x.may)(h1:0≤x.se∧x.se≤18446744073709551615):x.Fits:=by
 obtain⟨⟨a1,a2⟩,⟨b1,b2⟩,⟨c1,c2⟩,_,⟨d1,d2⟩,e⟩:=h;obtain⟨r1,r2,r3,r4,_⟩:=aE2 e;exact⟨h1,⟨zQ,zQ⟩,⟨zQ,zQ⟩,⟨zQ,zQ⟩,⟨zQ,zQ⟩,⟨zQ,zQ⟩,⟨zQ,zQ⟩⟩
theorem BInv.fits{l:List Of}{N:Int}(h:BInv l N){x:Of}(hx:x∈l):x.Fits:=by
 have:=h.bd x hx;have:=h.n2;exact(h.may x hx).fits ⟨zQ,zQ⟩
theorem aQw(c:Int)(w:World):
  Calls Tryz.prog 147 #[.int .u8 c] w fun e w'=>e=.returned (.bool (decide (1≤c∧c≤8)))∧w'=w:=by
 by_cases h1:1≤c
 ·have e1:decide (1≤c)=true:=zN
  by_cases h2:c≤8
  ·rw[decide_eq_true ⟨h1,h2⟩];have e2:decide (c≤8)=true:=zF
   clear h1 h2;go_enter Tryz.func147,Tryz.ntmps147;go_wp2;go_ret;exact⟨rfl,rfl⟩
  rw[decide_eq_false (fun k=>h2 k.2)];have e2:decide (c≤8)=false:=zF
  clear h1 h2;go_enter Tryz.func147,Tryz.ntmps147;go_wp2;go_ret;exact⟨rfl,rfl⟩
 rw[decide_eq_false (fun k=>h1 k.1)];have e1:decide (1≤c)=false:=zN
 clear h1;go_enter Tryz.func147,Tryz.ntmps147;go_wp2;go_ret;exact⟨rfl,rfl⟩
theorem pmay_any(x:Of)(w:World)(hf:x.Fits):
  Calls Tryz.prog 107 #[.agg #[.int .u64 x.se,.int .u8 x.ow,.int .u8 x.sl,.int .u8 x.bu,.int .i64 x.lf,.int .i64 x.nu,.int .i64 x.de]] w (yR w (.bool (decide x.may))):=by
 have B0:=yH ((Below.refl w.heap.size w).alloc yL (.cells #[.int .u64 x.se,.int .u8 x.ow,.int .u8 x.sl,.int .u8 x.bu,.int .i64 x.lf,.int .i64 x.nu,.int .i64 x.de] 197));have C:=yH (fun w=>aG6 x.nu x.de w hf.nu hf.de);have C1:=yH (fun w=>aQw x.sl w);have C2:=yH (fun w=>aQw x.bu w);clear hf
 by_cases h0:¬1≤x.ow
 ·rw[decide_eq_false (fun k:x.may=>uF k.1)];clear C C1 C2;have e1:decide (1≤x.ow)=false:=vE
  clear h0;go_enter Tryz.func107,Tryz.ntmps107;go_wp2_with fail;go_ret;exact⟨rfl,B0.o⟩
 have h0:=Decidable.not_not.1 h0;have e1:decide (1≤x.ow)=true:=vE
 by_cases h1:¬x.ow≤16
 ·rw[decide_eq_false (fun k:x.may=>uF k.1)];clear C C1 C2;have e2:decide (x.ow≤16)=false:=zN
  clear h0 h1;go_enter Tryz.func107,Tryz.ntmps107;go_wp2_with fail;go_ret;exact⟨rfl,B0.o⟩
 have h1:=Decidable.not_not.1 h1;have e2:decide (x.ow≤16)=true:=zN
 by_cases h2:¬(1≤x.sl∧x.sl≤8)
 ·rw[decide_eq_false (fun k:x.may=>h2 k.2.1)];rw[decide_eq_false h2]at C1;clear C C2 h0 h1 h2;go_enter Tryz.func107,Tryz.ntmps107;go_wp2_with fail;refine(C1.o _).mono ?_;rintro e w1 ⟨rfl,rfl⟩;go_wp2_with fail;go_ret;exact⟨rfl,B0.o⟩
 have h2:=Decidable.not_not.1 h2;rw[decide_eq_true h2]at C1
 by_cases h3:¬(1≤x.bu∧x.bu≤8)
 ·rw[decide_eq_false (fun k:x.may=>h3 k.2.2.1)];rw[decide_eq_false h3]at C2;clear C h0 h1 h2 h3;go_enter Tryz.func107,Tryz.ntmps107;go_wp2_with fail;refine(C1.o _).mono ?_;rintro e w1 ⟨rfl,rfl⟩;go_wp2_with fail;refine(C2.o _).mono ?_;rintro e w1 ⟨rfl,rfl⟩;go_wp2_with fail;go_ret;exact⟨rfl,B0.o⟩
 have h3:=Decidable.not_not.1 h3;rw[decide_eq_true h3]at C2
 by_cases h4:x.sl=x.bu
 ·rw[decide_eq_false (fun k:x.may=>k.2.2.2.1 h4)];have e4:(x.sl != x.bu)=false:=uN h4
  clear C h0 h1 h2 h3 h4;go_enter Tryz.func107,Tryz.ntmps107;go_wp2_with fail;refine(C1.o _).mono ?_;rintro e w1 ⟨rfl,rfl⟩;go_wp2_with fail;refine(C2.o _).mono ?_;rintro e w1 ⟨rfl,rfl⟩;go_wp2_with fail;go_ret;exact⟨rfl,B0.o⟩
 have e4:(x.sl != x.bu)=true:=uN h4
 by_cases h5:¬1≤x.lf
 ·rw[decide_eq_false (fun k:x.may=>uF k.2.2.2.2.1)];have e5:decide (1≤x.lf)=false:=uN h5
  clear C h0 h1 h2 h3 h4 h5;go_enter Tryz.func107,Tryz.ntmps107;go_wp2_with fail;refine(C1.o _).mono ?_;rintro e w1 ⟨rfl,rfl⟩;go_wp2_with fail;refine(C2.o _).mono ?_;rintro e w1 ⟨rfl,rfl⟩;go_wp2_with fail;go_ret;exact⟨rfl,B0.o⟩
 have h5:=Decidable.not_not.1 h5
 by_cases h6:¬x.lf≤1099511627776
 ·rw[decide_eq_false (fun k:x.may=>uF k.2.2.2.2.1)];have e6:decide (x.lf≤1099511627776)=false:=uN h6
  clear C h0 h1 h2 h3 h4 h5 h6;go_enter Tryz.func107,Tryz.ntmps107;go_wp2_with fail;refine(C1.o _).mono ?_;rintro e w1 ⟨rfl,rfl⟩;go_wp2_with fail;refine(C2.o _).mono ?_;rintro e w1 ⟨rfl,rfl⟩;go_wp2_with fail;go_ret;exact⟨rfl,B0.o⟩
 have h6:=Decidable.not_not.1 h6
 have hd:decide x.may=mayB x.nu x.de:=by
  cases hb:mayB x.nu x.de with
  | true=>exact decide_eq_true ⟨⟨h0,h1⟩,h2,h3,h4,⟨h5,h6⟩,hb⟩
  | false=>exact decide_eq_false (fun k=>by have:=k.2.2.2.2.2;rw[hb]at this;cases this)
 rw[hd];clear hd h0 h1 h2 h3 h4 h5 h6;generalize mayB x.nu x.de=r at *;go_enter Tryz.func107,Tryz.ntmps107;go_wp2_with fail;refine(C1.o _).mono ?_;rintro e w1 ⟨rfl,rfl⟩;go_wp2_with fail;refine(C2.o _).mono ?_;rintro e w1 ⟨rfl,rfl⟩;go_wp2_with fail;refine(C.o _).mono ?_;rintro e w1 ⟨rfl,b1⟩;have B1:=yT B0 b1;clear b1 C B0;go_wp2_with fail;go_ret;exact⟨rfl,B1.o⟩
theorem pnew_any(w:World)(base:Nat)(hb:base≤w.heap.size):
  Calls Tryz.prog 44 #[] w fun e w'=>e=.returned (.pointer (some ⟨w.heap.size,0,none⟩))∧PB w' base w.heap.size [] 1 (.slice none 0 0)∧Below w.heap.size w w':=by
 have K:=yH (Blk.new w #[.slice none 0 0,.int .u64 1] 158);go_enter Tryz.func44,Tryz.ntmps44;go_wp2;go_ret;exact⟨rfl,⟨K.o,hb,World.ownsRow_nil _ _ _ _⟩,yZ.alloc yL _⟩
theorem aJc{w:World}{g:Nat}{vl:Value}{N:Int}(h:Blk w g #[vl,.int .u64 N] 158):
  Calls Tryz.prog 60 #[.pointer (some ⟨g,0,none⟩)] w (yS w (.int .u64 N)):=by
 have d1:=h.cell 1;simp at d1;clear h;go_enter Tryz.func60,Tryz.ntmps60;go_wp2;go_ret;exact⟨rfl,rfl⟩
theorem aMl{w:World}{g:Nat}{vl:Value}{N:Int}(h:Blk w g #[vl,.int .u64 N] 158)(h1:1≤N):
  Calls Tryz.prog 113 #[.pointer (some ⟨g,0,none⟩)] w (yS w (.bool true)):=by
 have C:=yH (aJc h);have e2:(N != 0)=true:=zU
 clear h h1;go_enter Tryz.func113,Tryz.ntmps113;go_wp2_with fail;refine C.o.mono ?_;rintro e w ⟨rfl,rfl⟩;go_wp2_with fail;go_ret;exact⟨rfl,rfl⟩
theorem ball_any{w:World}{g:Nat}{ao:Option Addr}{n c:Nat}{N:Int}(h:Blk w g #[.slice ao n c,.int .u64 N] 158):
  Calls Tryz.prog 104 #[.pointer (some ⟨g,0,none⟩)] w (yS w (.slice ao n c)):=by
 have d1:=h.cell 0;simp at d1;clear h;go_enter Tryz.func104,Tryz.ntmps104;go_wp2;go_ret;exact⟨rfl,rfl⟩
def posO(l:List Of)(s:Int):Nat:=l.findIdx fun x=>x.se==s
theorem posO_le(l:List Of)(s:Int):posO l s≤l.length:=List.findIdx_le_length
theorem posO_at{l:List Of}{s:Int}{k:Nat}(hk:k<l.length)(hn:∀x∈l.take k,(x.se==s)=false)(hx:(l[k].se==s)=true):posO l s=k:=by
 unfold posO;rw[List.findIdx_eq hk];refine⟨hx,fun j hj=>?_⟩;exact hn _ yU
theorem posO_none{l:List Of}{s:Int}(hn:∀x∈l,(x.se==s)=false):posO l s=l.length:=by
 unfold posO;rw[List.findIdx_eq_length];exact hn
theorem aJ5{l:List Of}{s:Int}(h:posO l s<l.length):aBd l s=some l[posO l s]:=by
 unfold aBd posO at *;rw[List.find?_eq_some_iff_getElem];refine⟨List.findIdx_getElem (w:=h),_,h,rfl,fun j hj=>?_⟩;have:=List.not_of_lt_findIdx hj;simpa using this
theorem aIn{l:List Of}{s:Int}(h:¬posO l s<l.length):aBd l s=none:=by
 have h2:posO l s=l.length:=uF (posO_le l s)
 unfold posO at h2;rw[List.findIdx_eq_length]at h2;exact findO_none h2
def idxV(l:List Of)(s:Int):Value:=if posO l s<l.length then .int .i64 (posO l s:Nat)else .int .i64 (-1)
def aEf(l:List Of)(s:Int):Value:=if posO l s<l.length then .tuple #[.int .i64 (posO l s:Nat),.int .i64 0]else .tuple #[.int .i64 0,.int .i64 7]
theorem stand1_any(x:Of){c:Nat}{s:Int}{w:World}(hK:Blk w c #[.int .u64 s] 44):
  Calls Tryz.prog 245 #[.agg #[.int .u64 x.se,.int .u8 x.ow,.int .u8 x.sl,.int .u8 x.bu,.int .i64 x.lf,.int .i64 x.nu,.int .i64 x.de],.pointer (some ⟨c,0,none⟩)] w (yR w (.bool (x.se==s))):=by
 have B0:=yH ((Below.refl w.heap.size w).alloc yL (.cells #[.int .u64 x.se,.int .u8 x.ow,.int .u8 x.sl,.int .u8 x.bu,.int .i64 x.lf,.int .i64 x.nu,.int .i64 x.de] 197));have k1:=hK.alloc (.cells #[.int .u64 x.se,.int .u8 x.ow,.int .u8 x.sl,.int .u8 x.bu,.int .i64 x.lf,.int .i64 x.nu,.int .i64 x.de] 197);have d0:=k1.cell 0;simp at d0;clear k1 hK;go_enter Tryz.func245,Tryz.ntmps245;go_wp2_with fail;go_ret;exact⟨rfl,B0.o⟩
def IdxAt(w:World)(l:List Of)(s:Int)(i:Value)(wr:World):Prop:=
 ∃k:Nat,k≤l.length∧i=.int .i64 k∧(∀x∈l.take k,(x.se==s)=false)∧Below w.heap.size w wr
theorem pidx_any{w:World}{base c:Nat}{l:List Of}{s:Int}{v:Value}(h:w.ownsRow base 197 7 v l.length (aAb l))(hK:Blk w c #[.int .u64 s] 44):
  Calls Tryz.prog 244 #[v,.func (.func 245) #[] #[.pointer (some ⟨c,0,none⟩)]] w (yR w (idxV l s)):=by
 obtain⟨ao,cap,rfl,hc1,hc2,hc3,hc4⟩:=aAg h;have HC:=yH hc4;have KC:=yH hK;unfold maxLen at hc2;clear hc3 hc4 h hK;go_enter Tryz.func244,Tryz.ntmps244;go_wp2_with fail
 go_loopw [5,8] (fun _ i wr=>IdxAt w l s i wr) (fun _ i _=>l.length - (intOf i).toNat)
 case atStart=>exact⟨0,Nat.zero_le _,rfl,zV,yZ⟩
 obtain⟨k,hk,rfl,hn,hb⟩:=hrel
 by_cases hkl:k<l.length
 ·obtain⟨b,rfl,hb1,hb2,hcell,_⟩:=HC.o zQ;obtain⟨e0,e1,e2,e3,e4,e5,e6⟩:=aCv (w:=wr) (fun j hj=>wO) hkl;have FA:=yH (fun hx=>posO_at (s:=s) hkl hn hx);have TN:=yH (fun hx=>aJb (q:=fun x=>(x.se==s)=false) hkl hn hx);have C1:=yH (stand1_any l[k] (KC.o.below hb KC.o.lt));have HB:=yH hb;clear hcell hn hb;generalize l[k]=x at *
  by_cases hx:(x.se==s)=true
  ·have E:=yH (FA.o hx);rw[hx]at C1;clear FA TN hx;go_wp2_with fail;refine C1.o.mono ?_;rintro e w2 ⟨rfl,b2⟩;have HB2:=yT HB b2;clear b2;go_wp2_with fail;go_ret;refine⟨?_,HB2.o⟩;unfold idxV;rw[E.o,if_pos hkl];rfl
  have hx:(x.se==s)=false:=uU
  have E:=yH (TN.o hx);rw[hx]at C1;clear FA TN hx;go_wp2_with fail;refine C1.o.mono ?_;rintro e w2 ⟨rfl,b2⟩;have HB2:=yT HB b2;clear b2;go_wp2_with fail;go_roundw
  case rel=>exact⟨k+1,zQ,by go_num,E.o,HB2.o⟩
  case measure=>simp[intOf];omega
 have E:Hid (posO l s=l.length):=yH (posO_none (by have:=hn;rwa [List.take_of_length_le zQ]at this));have HB:=yH hb;clear hn hb;go_wp2_with fail;go_ret;refine⟨?_,HB.o⟩;unfold idxV;rw[E.o,if_neg zQ];rfl
theorem aJ6{w:World}{base g:Nat}{l:List Of}{N:Int}{vl:Value}(h:PB w base g l N vl)(h1:1≤N)(s:Int):
  Calls Tryz.prog 203 #[.pointer (some ⟨g,0,none⟩),.int .u64 s] w (yR w (aEf l s)):=by
 have bw:=(Below.refl w.heap.size w).alloc yL (.cells #[.int .u64 s] 44);have B0:=yH bw;have h2:=h.below bw;have C:=yH (aMl h2.blk h1);have C2:=yH (pidx_any h2.row (Blk.new w #[.int .u64 s] 44));have d0:=h2.blk.cell 0;simp at d0;obtain⟨ao,cap,rfl,_⟩:=aAg h2.row;clear bw h h2 h1
 by_cases hp:posO l s<l.length
 ·rw[show idxV l s=.int .i64 (posO l s:Nat) by unfold idxV;rw[if_pos hp]]at C2;rw[show aEf l s=.tuple #[.int .i64 (posO l s:Nat),.int .i64 0] by unfold aEf;rw[if_pos hp]];generalize posO l s=p at *;clear hp;go_enter Tryz.func203,Tryz.ntmps203;go_wp2_with fail;refine C.o.mono ?_;rintro e w1 ⟨rfl,rfl⟩;go_wp2_with fail;refine C2.o.mono ?_;rintro e w1 ⟨rfl,b1⟩;have B1:=yT B0 b1;clear b1 C C2;go_wp2_with fail;refine bodyPost_ret (v:=.tuple #[.int .i64 (p:Nat),.int .i64 0]) (by simp[results,Tryz.results203,go_sem]) rfl ?_;exact⟨rfl,B1.o⟩
 rw[show idxV l s=.int .i64 (-1) by unfold idxV;rw[if_neg hp]]at C2;rw[show aEf l s=.tuple #[.int .i64 0,.int .i64 7] by unfold aEf;rw[if_neg hp]];clear hp;go_enter Tryz.func203,Tryz.ntmps203;go_wp2_with fail;refine C.o.mono ?_;rintro e w1 ⟨rfl,rfl⟩;go_wp2_with fail;refine C2.o.mono ?_;rintro e w1 ⟨rfl,b1⟩;have B1:=yT B0 b1;clear b1 C C2;go_wp2_with fail;refine bodyPost_ret (v:=.tuple #[.int .i64 0,.int .i64 7]) (by simp[results,Tryz.results203,go_sem]) rfl ?_;exact⟨rfl,B1.o⟩
theorem aG7{P:Program}(w:World)(t e ty:TypeId)(z:Value)(ht:P.underlying t=some (.slice e))(hv:∀w,(zeroValue e).run P w=.ok z w)(b o n c:Nat)(hn:0<n)(h1:∀u∈(Builtin.zeroCells z.cells n).toList,u.oneCell'=true)
  (hc:∀j,j<(Builtin.zeroCells z.cells n).toList.length→(w.cell? ⟨b,o+j,none⟩).isSome=true)(hf:∀j,j<(Builtin.zeroCells z.cells n).toList.length→w.frozen? ⟨b,o+j,none⟩=false):
  (Builtin.clear_ #[t] ty #[.slice (some ⟨b,o,none⟩) n c]).run P w=.ok (.tuple #[]) (w.setCells b o (Builtin.zeroCells z.cells n).toList):=by
 have hst:=run_storeCells_cells (P:=P) b o (Builtin.zeroCells z.cells n).toList 0 w (uN hc) (uN hf) h1;simp only[Nat.add_zero]at hst;obtain⟨m,rfl⟩:∃m,n=m+1:=⟨n - 1,zQ⟩;simp[Builtin.clear_,run_underlying ht,hv,hst]
theorem aCw{w:World}{g:Nat}{e:TypeId}:∀(vs:List Value) (o:Nat) (cur:Array Value),w.heap[g]? = some (.cells cur e (0,0))→o+vs.length≤cur.size→
  ∃cur',(w.setCells g o vs).heap[g]? = some (.cells cur' e (0,0))∧cur'.toList=cur.toList.take o++vs++cur.toList.drop (o+vs.length)
 | [],o,cur,h,hs=>⟨cur,h,zV⟩
 | v::r,o,cur,h,hs=>by
  have hl:o<cur.size:=by simp at hs;omega
  have h2:(w.setCell ⟨g,o,none⟩ v).heap[g]? = some (.cells (cur.setIfInBounds o v) e (0,0)):=Blk.set (show Blk w g cur e from h) o v;obtain⟨cur',h3,h4⟩:=aCw (w:=w.setCell ⟨g,o,none⟩ v) r (o+1) _ h2 (by simp at hs ⊢;omega);refine⟨cur',by rw[World.setCells];exact h3,?_⟩;rw[h4,Array.toList_setIfInBounds];have hl':o<cur.toList.length:=uN hl
  rw[List.take_set,List.drop_set_of_lt zQ,List.take_succ_eq_append_getElem hl',List.set_append_right _ _ zU];simp[List.length_take,Nat.min_eq_left (Nat.le_of_lt hl),show o+1+r.length=o+(r.length+1) by omega]
def aKr(g j cap:Nat):Addr:=if cap=j then⟨g,0,none⟩else⟨g,j*7,none⟩
def zOff:Value:=.agg #[.int .u64 0,.int .u8 0,.int .u8 0,.int .u8 0,.int .i64 0,.int .i64 0,.int .i64 0]
theorem aJd:(Tryz.prog.info? 197).map (fun i=>(i.zero,i.size,i.bytes))=some (some zOff,7,40):=zW
theorem aH5{P:Program}(w:World)(t e:TypeId)(ht:P.underlying t=some (.slice e))(hs:(sizeOf e).run P w=.ok 7 w)(g n cap j:Nat)(h:j≤n)(h2:n≤cap)(i:Int)(hi:i=(j:Int)):
  (Instr.sliceAt t (.slice (some ⟨g,0,none⟩) n cap) (some (.int .i64 i)) none none).run P w=.ok (.slice (some (aKr g j cap)) (n - j) (cap - j)) w:=by
 subst hi
 by_cases hc:cap=j
 ·subst hc;have:n=cap:=zQ
  subst this;simp[Instr.sliceAt,Instr.slice,run_underlying ht,Instr.sliceBounds,run_sliceBound,hs,Result.andThen,Addr.add,aKr]
 simp[Instr.sliceAt,Instr.slice,run_underlying ht,Instr.sliceBounds,run_sliceBound,hs,Result.andThen,Addr.add,aKr,hc,h,h2,show j≤cap by omega,show cap - j≠0 by omega];omega
theorem aNu{P:Program}(w:World)(t e:TypeId)(ht:P.underlying t=some (.slice e))(hs:(sizeOf e).run P w=.ok 7 w)(g m cap:Nat)(h2:m+1≤cap)(i:Int)(hi:i=(m:Int)+1):
  (Instr.sliceAt t (.slice (some ⟨g,0,none⟩) m cap) (some (.int .i64 (m:Int))) (some (.int .i64 i)) none).run P w=.ok (.slice (some ⟨g,m*7,none⟩) 1 (cap - m)) w:=by
 obtain⟨x,hx⟩:∃x:Nat,x=m+1:=⟨_,rfl⟩;have e1:i=(x:Int):=zQ
 rw[e1];clear e1 hi;simp[Instr.sliceAt,Instr.slice,run_underlying ht,Instr.sliceBounds,run_sliceBound,hs,Result.andThen,Addr.add,show x≤cap by omega,show m≤x by omega,show cap≠m by omega];refine⟨?_,zQ⟩;intro h;omega
theorem pdel_any{w:World}{base g cap k:Nat}{l:List Of}(h:w.ownsRow base 197 7 (.slice (some ⟨g,0,none⟩) l.length cap) l.length (aAb l))(hk:k<l.length)(i:Int)(hi:i=(k:Int)+1):
  Calls Tryz.prog 246 #[.slice (some ⟨g,0,none⟩) l.length cap,.int .i64 (k:Nat),.int .i64 i] w fun e w'=>e=.returned (.slice (some ⟨g,0,none⟩) (l.eraseIdx k).length cap)∧w'.ownsRow base 197 7 (.slice (some ⟨g,0,none⟩) (l.eraseIdx k).length cap) (l.eraseIdx k).length (aAb (l.eraseIdx k))∧Keep (·=g) w w':=by
 obtain⟨_,hx⟩:=h;rcases hx with⟨hx,_⟩|⟨g',cap',cur,hv,hbase,hb,h1,h2,h3,h4⟩
 ·cases hx
 cases hv
 obtain⟨m,hm⟩:∃m,l.length=m+1:=⟨l.length - 1,zQ⟩;have hel:(l.eraseIdx k).length=m:=by rw[List.length_eraseIdx_of_lt hk,hm];rfl
 obtain⟨i0,hi1,hi2,hi3,hi4⟩:=info_parts aJd;have hnl:(aAb (l.drop (k+1))).length=(m - k)*7:=by rw[aAt,List.length_drop,hm];congr 1;omega
 have hns:=aGy (l.drop (k+1))
 have htl:∀t u,(aAb (l.drop (k+1)))[t]? = some u→w.drew.cell? ((aKr g (k+1) cap).add t)=some u:=by
  intro t u hu;have ht:t<(m - k)*7:=by rw[←hnl];exact(List.getElem?_eq_some_iff.1 hu).1
  have hc:¬cap=k+1:=zQ
  have e1:(aKr g (k+1) cap).add t=⟨g,(k+1)*7+t,none⟩:=by unfold aKr;rw[if_neg hc,Go.WideShapes.add_plain]
  rw[e1];have hcl:(w.cell? ⟨g,(k+1)*7+t,none⟩)=cur[(k+1)*7+t]? := Blk.cell (show Blk w g cur _ from hb) _;show w.cell? _=_;rw[hcl,←Array.getElem?_toList];have h5:(cur.toList.take (l.length*7))[(k+1)*7+t]? = (aAb l)[(k+1)*7+t]? := by rw[h4]
  rw[List.getElem?_take_of_lt (uT hm)]at h5;rw[h5];have h6:aAb l=aAb (l.take (k+1))++aAb (l.drop (k+1)):=xP
  rw[h6,List.getElem?_append_right xQ,aAt,List.length_take];rw[show(k+1)*7+t - min (k+1) l.length*7=t by rw[Nat.min_eq_left zQ];omega];exact hu
 obtain⟨W1,hW1⟩:∃W1,W1=w.drew.setCells g (0+k*7) (aAb (l.drop (k+1))):=⟨_,rfl⟩;obtain⟨cur1,hb1,hc1⟩:=aCw (w:=w.drew) (e:=197) (aAb (l.drop (k+1))) (0+k*7) cur hb (by rw[hnl,h3];omega);have kk1:Keep (·=g) w W1:=by rw[hW1];exact Keep.setCells _ _ (Keep.refl _ w).drew (.inl rfl)
 rw[←hW1]at hb1
 have hz1:cur1.size=cap*7:=by
  rw[←Array.length_toList,hc1];simp only[List.length_append,List.length_take,List.length_drop,Array.length_toList,hnl];omega
 have hzc:(Builtin.zeroCells zOff.cells 1).toList=[.int .u64 0,.int .u8 0,.int .u8 0,.int .u8 0,.int .i64 0,.int .i64 0,.int .i64 0]:=zW
 have hcl:∀ty,(Builtin.clear_ #[156] ty #[.slice (some ⟨g,m*7,none⟩) 1 (cap - m)]).run Tryz.prog W1=.ok (.tuple #[]) (W1.setCells g (m*7) (Builtin.zeroCells zOff.cells 1).toList):=fun ty=>
  aG7 W1 156 197 ty zOff Tryz.underlying156 (Tryz.zeroValue197) g (m*7) 1 (cap - m) zQ (by rw[hzc];simp[Value.oneCell'])
   (fun j hj=>by rw[hzc]at hj;rw[Blk.cell (show Blk W1 g cur1 _ from hb1)];simp at hj;rw[Array.getElem?_eq_getElem (uT hz1)];rfl) (fun j hj=>Blk.frozen (show Blk W1 g cur1 _ from hb1) _)
 obtain⟨cur2,hb2,hc2⟩:=aCw (w:=W1) (e:=197) (Builtin.zeroCells zOff.cells 1).toList (m*7) cur1 hb1 (by rw[hzc,hz1];simp;omega);have kk2:Keep (·=g) W1 (W1.setCells g (m*7) (Builtin.zeroCells zOff.cells 1).toList):=Keep.setCells _ _ (Keep.refl _ W1) (.inl rfl)
 have HF:Hid ((W1.setCells g (m*7) (Builtin.zeroCells zOff.cells 1).toList).ownsRow base 197 7 (.slice (some ⟨g,0,none⟩) m cap) m (aAb (l.eraseIdx k))∧Keep (·=g) w (W1.setCells g (m*7) (Builtin.zeroCells zOff.cells 1).toList)):=by
  refine yH ⟨⟨by rw[aAt,hel],.inr ⟨g,cap,cur2,rfl,hbase,hb2,zQ,h2,?_,?_⟩⟩,kk1.trans kk2⟩
  ·rw[←Array.length_toList,hc2,hzc];simp only[List.length_append,List.length_take,List.length_drop,Array.length_toList,hz1,List.length_cons,List.length_nil];omega
  rw[hc2,List.append_assoc,List.take_append_of_le_length (by simp[hz1];omega),List.take_take,Nat.min_self,hc1,Nat.zero_add];rw[List.take_append_of_le_length (by simp[hnl,h3];omega)]
  have e1:cur.toList.take (k*7)=aAb (l.take k):=by
   have:cur.toList.take (k*7)=(cur.toList.take (l.length*7)).take (k*7):=vP
   rw[this,h4];have h6:aAb l=aAb (l.take k)++aAb (l.drop k):=xP
   rw[h6,List.take_left' xQ]
  rw[e1,List.take_of_length_le (by simp[aAt,List.length_take];omega),←aBb,List.eraseIdx_eq_take_drop_succ]
 rw[hzc]at HF;simp only[hzc]at hcl;have HW:=yH hW1;have HT:=yH htl;have HN:=yH hnl;have HS:=yH hns;have hr1:=aH5 (P:=Tryz.prog) w.drew 156 197 Tryz.underlying156 (Tryz.sizeOf197 _) g (m+1) cap (k+1) zQ zQ i zQ;have hr2:=aNu (P:=Tryz.prog) W1 156 197 Tryz.underlying156 (Tryz.sizeOf197 _) g m cap zQ ((m:Int)+1) rfl;have HB:=yH (Blk.cell (show Blk w g cur _ from hb));have HBf:=yH (Blk.frozen (show Blk w g cur _ from hb));have hkm:k≤m:=zQ
 rw[hel,hm];have s3:Hid (∀t,t<(aAb (l.drop (k+1))).length→(w.drew.cell? ⟨g,0+k*7+t,none⟩).isSome=true∧w.drew.frozen? ⟨g,0+k*7+t,none⟩=false):=yH (fun t ht=>⟨by show(w.cell? _).isSome=true;rw[HB.o,Array.getElem?_eq_getElem (uT h3)];rfl,HBf.o _⟩);have hcm:m+1≤cap:=zQ
 have hin:i=(k:Int)+1:=hi;subst hin;have q1:((k:Int)==(k:Int)+1)=false:=zU
 have hic:k≤cap:=zQ
 unfold maxLen at h2;clear hW1 htl hnl hns kk1 kk2 hb1 hc1 hb2 hc2 hz1 hzc hel hm h3 h4 hb h1 hk;go_enter Tryz.func246,Tryz.ntmps246;go_wp2_with fail
 go_region_law (refine step_append_room rfl (.tmp 22) (.tmp 25) 156 rfl 197 i0 7 Tryz.underlying156 hi1 hi3 g 0 k cap (by simp[Act.eval,Act.put]) (aKr g (k+1) cap) (m - k) (cap - (k+1)) (aAb (l.drop (k+1))) (by simp[Act.eval,Act.put]) HN.o HT.o HS.o zQ s3.out ?_;rw[←HW.o])
 go_wp2;go_ret;exact⟨rfl,HF.o.1,HF.o.2⟩
theorem aMm{w:World}{base g k:Nat}{l:List Of}{N:Int}{vl:Value}(h:PB w base g l N vl)(hk:k<l.length)(hl:l.length≤1000):
  Calls Tryz.prog 204 #[.pointer (some ⟨g,0,none⟩),.int .i64 (k:Nat)] w fun e w'=>e=.returned (.tuple #[])∧∃vl',PB w' base g (l.eraseIdx k) N vl'∧Keep (Foot g vl) w w'∧vl'.ownBlock=vl.ownBlock:=by
 obtain⟨ao,cap,rfl,_,_,_,hr⟩:=aAg h.row;obtain⟨b,rfl,hbb,hbl,_⟩:=hr zQ;have C:=yH (pdel_any h.row hk ((k:Int)+1) rfl);have H:=yH h;have d0:=h.blk.cell 0;simp at d0;have hne:b≠g:=h.apart b rfl;clear h hr;have HN:=yH hne;clear hne;go_enter Tryz.func204,Tryz.ntmps204;go_wp2_with fail;refine C.o.mono ?_;rintro e w1 ⟨rfl,ho,kk⟩;have HO:=yH ho;have HK:=yH kk;have HB:=yH (H.o.blk.keep kk (fun e=>HN.o e.symm));have hf1:=HB.o.frozen 0;have d1:=HB.o.cell 0;simp at d1;clear ho kk C d0;go_wp2_with fail;go_end0;have k2:Keep (·=g) w1 (w1.setCell ⟨g,0,none⟩ (.slice (some ⟨b,0,none⟩) (l.eraseIdx k).length cap)):=Keep.setCell (S:=(·=g)) (Keep.refl _ _) (p:=⟨g,0,none⟩) (.inl rfl) _;refine⟨rfl,_,⟨by simpa using HB.o.set 0 (.slice (some ⟨b,0,none⟩) (l.eraseIdx k).length cap),H.o.ge,aBr HO.o k2 (fun b' hb' e=>by cases hb';exact HN.o e)⟩,(HK.o.mono (fun j _ (hj:j=b)=>.inr (by rw[hj];rfl))).trans (k2.mono (fun j _ (hj:j=g)=>.inl hj)),rfl⟩
theorem aF5(a b:List Of)(s n:Int):setO (a++b) s n=setO a s n++setO b s n:=by unfold setO;rw[List.map_append,List.filter_append]
theorem aHn{a:List Of}{s n:Int}(h:∀x∈a,x.se≠s∧0<x.lf):setO a s n=a:=by
 induction a with
 | nil=>rfl
 | cons x r ih=>
  have hx:=h x zV;have hr:=ih (fun y hy=>h y vL);unfold setO at *;rw[List.map_cons,List.filter_cons,show Of.put s n x=x by unfold Of.put;rw[if_neg hx.1],if_pos (uN hx.2),hr]
theorem BInv.others{l:List Of}{N:Int}(h:BInv l N){s:Int}(hp:posO l s<l.length):(∀x∈l.take (posO l s),x.se≠s∧0<x.lf)∧(∀x∈l.drop (posO l s+1),x.se≠s∧0<x.lf)∧l[posO l s].se=s:=by
 have hlf:∀x∈l,0<x.lf:=fun x hx=>by have:=(h.may x hx).2.2.2.2.1;omega
 have hat:l[posO l s].se=s:=by
  have:=List.findIdx_getElem (p:=fun x:Of=>x.se==s) (xs:=l) (w:=hp);exact eq_of_beq this
 refine⟨fun x hx=>⟨?_,hlf x (List.mem_of_mem_take hx)⟩,fun x hx=>⟨?_,hlf x (List.mem_of_mem_drop hx)⟩,hat⟩
 ·obtain⟨j,hj,rfl⟩:=List.mem_take_iff_getElem.1 hx;have:=List.not_of_lt_findIdx (p:=fun x:Of=>x.se==s) (xs:=l) (i:=j) (by unfold posO at hj;omega);simpa using this
 obtain⟨j,hj,rfl⟩:=List.mem_drop_iff_getElem.1 hx;have:=List.pairwise_iff_getElem.1 h.rise (posO l s) (posO l s+1+j) hp zQ zQ;intro e;omega
theorem aQx{l:List Of}{k:Nat}(h:k<l.length):l=l.take k++[l[k]]++l.drop (k+1):=by
 rw[←List.take_succ_eq_append_getElem h,List.take_append_drop]
theorem aOd{l:List Of}{N:Int}(h:BInv l N){s:Int}(hp:posO l s<l.length):setO l s 0=l.eraseIdx (posO l s):=by
 obtain⟨h1,h2,h3⟩:=h.others hp
 conv=>lhs;rw[aQx hp]
 rw[aF5,aF5,aHn h1,aHn h2,List.eraseIdx_eq_take_drop_succ];simp[setO,Of.put,h3]
theorem setO_put{l:List Of}{N:Int}(h:BInv l N){s n:Int}(hn:0<n)(hp:posO l s<l.length):setO l s n=l.set (posO l s) { l[posO l s]with lf:=n }:=by
 obtain⟨h1,h2,h3⟩:=h.others hp
 conv=>lhs;rw[aQx hp]
 rw[aF5,aF5,aHn h1,aHn h2,List.set_eq_take_append_cons_drop,if_pos hp];simp[setO,Of.put,h3,hn]
theorem aLh{l:List Of}{s n:Int}{y:Of}(h:y∈setO l s n):0<y.lf∧∃x∈l,y=x∨(x.se=s∧y={ x with lf:=n }):=by
 unfold setO at h;obtain⟨h1,h2⟩:=List.mem_filter.1 h;obtain⟨x,hx,rfl⟩:=List.mem_map.1 h1;refine⟨zF,x,hx,?_⟩;unfold Of.put;split
 ·rename_i e;exact .inr ⟨e,rfl⟩
 exact .inl rfl
theorem setO_se(l:List Of)(s n:Int):((l.map (Of.put s n)).map Of.se)=l.map Of.se:=by
 rw[List.map_map];apply List.map_congr_left;intro x _;show(Of.put s n x).se=x.se;unfold Of.put;split <;> rfl
theorem BInv.set{l:List Of}{N:Int}(h:BInv l N){s n:Int}(hn:n≤1099511627776):BInv (setO l s n) N:=by
 refine⟨fun y hy=>?_,?_,fun y hy=>?_,Nat.le_trans (setO_len l s n) h.len,h.n1,h.n2⟩
 ·obtain⟨h0,x,hx,rfl|⟨_,rfl⟩⟩:=aLh hy
  ·exact h.may _ hx
  obtain⟨a,b,c,d,e,f⟩:=h.may _ hx;exact⟨a,b,c,d,⟨by have:0<n:=h0;show 1≤n;omega,hn⟩,f⟩
 ·have h1:(l.map (Of.put s n)).Pairwise fun x y=>x.se<y.se:=by
   rw[←List.pairwise_map (f:=Of.se) (R:=fun a b:Int=>a<b),setO_se,List.pairwise_map];exact h.rise
  exact h1.filter _
 obtain⟨_,x,hx,rfl|⟨_,rfl⟩⟩:=aLh hy
 ·exact h.bd _ hx
 have:=h.bd _ hx;exact this
theorem BInv.cancel{l:List Of}{N:Int}(h:BInv l N)(ow s:Int):BInv (aDt l ow s) N:=by
 unfold aDt;split
 ·exact h.set zQ
 exact h
theorem leftO_bd{l:List Of}{N:Int}(h:BInv l N)(s:Int):0≤aK6 l s∧aK6 l s≤1099511627776:=by
 unfold aK6
 cases hf:aBd l s with
 | none=>simp
 | some x=>have:=(h.may _ (aCd hf).1).2.2.2.2.1;simp only;omega
theorem takeE_pos{l:List Of}{s n:Int}(h:aGu l s n=0):1≤n:=by
 unfold aGu at h;split at h
 ·omega
 split at h
 ·omega
 omega
theorem BInv.take{l:List Of}{N:Int}(h:BInv l N)(s n:Int):BInv (aDv l s n) N:=by
 unfold aDv;split
 ·rename_i e;have:=leftO_bd h s;have:=takeE_pos e;exact h.set zQ
 exact h
theorem aMn:∀(l:List Of) (k:Nat) (h:k<l.length) (n:Int),(aAb l).set (k*7+4) (.int .i64 n)=aAb (l.set k { l[k]with lf:=n })
 | x::r,0,_,n=>by simp[aAb,Of.vals]
 | x::r,k+1,h,n=>by
  have ih:=aMn r k y7 n;have e1:aAb (x::r)=x.vals++aAb r:=rfl;have hk':k<r.length:=y7
  have e2:aAb ((x::r).set (k+1) { (x::r)[k+1]with lf:=n })=x.vals++aAb (r.set k { r[k]with lf:=n }):=rfl;rw[e1,e2,←ih,List.set_append_right _ _ (by simp[Of.vals];omega)];congr 2;simp[Of.vals];omega
theorem owns_put{w:World}{base b cap k:Nat}{e:TypeId}{l:List Of}(h:w.ownsRow base e 7 (.slice (some ⟨b,0,none⟩) l.length cap) l.length (aAb l))(hk:k<l.length)(n:Int):
  (w.setCell ⟨b,k*7+4,none⟩ (.int .i64 n)).ownsRow base e 7 (.slice (some ⟨b,0,none⟩) l.length cap) (l.set k { l[k]with lf:=n }).length (aAb (l.set k { l[k]with lf:=n })):=by
 obtain⟨_,hx⟩:=h;rcases hx with⟨hx,_⟩|⟨g,cap',cur,hv,hbase,hb,h1,h2,h3,h4⟩
 ·cases hx
 cases hv
 refine⟨by rw[aAt],.inr ⟨b,cap,_,by rw[List.length_set],hbase,Blk.set (show Blk w b cur e from hb) (k*7+4) (.int .i64 n),by rw[List.length_set];exact h1,h2,uN h3,?_⟩⟩;rw[←aMn l k hk n,←h4,List.length_set,Array.toList_setIfInBounds,List.take_set]
theorem aTc{w:World}{base g:Nat}{l:List Of}{N:Int}{vl:Value}(h:PB w base g l N vl)(hI:BInv l N)(ow s:Int):
  Calls Tryz.prog 157 #[.pointer (some ⟨g,0,none⟩),.int .u8 ow,.int .u64 s] w fun e w'=>e=.returned (.tuple #[.int .i64 (aDs l ow s),.int .i64 (aCa l ow s)])∧∃vl',PB w' base g (aDt l ow s) N vl'∧Keep (Foot g vl) w w'∧aEj w vl vl':=by
 have C:=yH (aJ6 h hI.n1 s);have H:=yH h;have HI:=yH hI;have hlen:=hI.len;clear h hI
 by_cases hp:posO l s<l.length
 ·rw[show aEf l s=.tuple #[.int .i64 (posO l s:Nat),.int .i64 0] by unfold aEf;rw[if_pos hp]]at C;have hf:=aJ5 hp;have SE:=yH (aOd HI.o hp);obtain⟨ao,cap,hv,_,hcm,_,hr⟩:=aAg H.o.row;subst hv;obtain⟨b,rfl,hbb,hbl,hcell,_⟩:=hr zQ;have HC:=yH hcell;have CR:=yH (fun w1 (b1:Below w.heap.size w w1)=>aMm (H.o.below b1) hp zQ);clear hr hcell;generalize hpk:posO l s=k at *;clear hpk;generalize hxk:l[k]=x at *;unfold maxLen at hcm
  by_cases hw:x.ow=ow
  ·have E:=yH (show aDs l ow s=x.lf∧aCa l ow s=0∧aDt l ow s=l.eraseIdx k from by
    have e2:aCa l ow s=0:=by unfold aCa;rw[hf];exact if_pos hw
    exact⟨by unfold aDs;rw[hf];exact if_pos hw,e2,by unfold aDt;rw[if_pos e2,SE.o]⟩)
   have q2:(x.ow != ow)=false:=uN hw
   rw[E.o.1,E.o.2.1,E.o.2.2];clear hf hw;go_enter Tryz.func157,Tryz.ntmps157;go_wp2_with fail;refine C.o.mono ?_;rintro e w1 ⟨rfl,b1⟩;have H1:=H.o.below b1;have d0:=H1.blk.cell 0;simp at d0;obtain⟨e0,e1,e2,e3,e4,e5,e6⟩:=aCv (w:=w1) (fun j hj=>zI) hp;rw[hxk]at e0 e1 e2 e3 e4 e5 e6;have CR1:=yH (CR.o w1 b1);have HB1:=yH b1;clear b1 H1 CR C hxk;go_wp2_with fail;refine CR1.o.mono ?_;rintro e w2 ⟨rfl,vl',h2,k2,m2⟩;have R:=yH (And.intro h2 (And.intro k2 m2));clear h2 k2 m2;go_wp2_with fail;refine bodyPost_ret (v:=.tuple #[.int .i64 x.lf,.int .i64 0]) wQ rfl ?_;exact⟨rfl,vl',R.o.1,(pAD HB1.o).trans R.o.2.1,fun b hb=>.inl (by rw[←R.o.2.2];exact hb)⟩
  have E:=yH (show aDs l ow s=0∧aCa l ow s=15∧aDt l ow s=l from by
   have e2:aCa l ow s=15:=by unfold aCa;rw[hf];exact if_neg hw
   exact⟨by unfold aDs;rw[hf];exact if_neg hw,e2,by unfold aDt;rw[if_neg vZ]⟩)
  have q2:(x.ow != ow)=true:=uN hw
  rw[E.o.1,E.o.2.1,E.o.2.2];clear hf hw CR;go_enter Tryz.func157,Tryz.ntmps157;go_wp2_with fail;refine C.o.mono ?_;rintro e w1 ⟨rfl,b1⟩;have H1:=H.o.below b1;have d0:=H1.blk.cell 0;simp at d0;obtain⟨e0,e1,e2,e3,e4,e5,e6⟩:=aCv (w:=w1) (fun j hj=>zI) hp;rw[hxk]at e0 e1 e2 e3 e4 e5 e6;have HB1:=yH b1;clear b1 H1 C hxk;go_wp2_with fail;refine bodyPost_ret (v:=.tuple #[.int .i64 0,.int .i64 15]) wQ rfl ?_;exact⟨rfl,_,H.o.below HB1.o,pAD HB1.o,aEj.refl _ _⟩
 rw[show aEf l s=.tuple #[.int .i64 0,.int .i64 7] by unfold aEf;rw[if_neg hp]]at C;have hf:=aIn hp
 have E:=yH (show aDs l ow s=0∧aCa l ow s=7∧aDt l ow s=l from by
  have e2:aCa l ow s=7:=by unfold aCa;rw[hf]
  exact⟨by unfold aDs;rw[hf],e2,by unfold aDt;rw[if_neg vZ]⟩)
 rw[E.o.1,E.o.2.1,E.o.2.2];clear hf hp;go_enter Tryz.func157,Tryz.ntmps157;go_wp2_with fail;refine C.o.mono ?_;rintro e w1 ⟨rfl,b1⟩;have HB1:=yH b1;clear b1 C;go_wp2_with fail;refine bodyPost_ret (v:=.tuple #[.int .i64 0,.int .i64 7]) wQ rfl ?_;exact⟨rfl,_,H.o.below HB1.o,pAD HB1.o,aEj.refl _ _⟩
theorem aQy{w:World}{base g:Nat}{l:List Of}{N:Int}{vl:Value}(h:PB w base g l N vl)(hI:BInv l N)(s n:Int):
  Calls Tryz.prog 276 #[.pointer (some ⟨g,0,none⟩),.int .u64 s,.int .i64 n] w fun e w'=>e=.returned (.int .i64 (aGu l s n))∧∃vl',PB w' base g (aDv l s n) N vl'∧Keep (Foot g vl) w w'∧aEj w vl vl':=by
 have C:=yH (aJ6 h hI.n1 s);have H:=yH h;have HI:=yH hI;have hlen:=hI.len;clear h hI
 by_cases hp:posO l s<l.length
 ·rw[show aEf l s=.tuple #[.int .i64 (posO l s:Nat),.int .i64 0] by unfold aEf;rw[if_pos hp]]at C;have hf:=aJ5 hp;have SE:=yH (aOd HI.o hp);have SP:=yH (fun m hm=>setO_put HI.o (s:=s) (n:=m) hm hp);obtain⟨ao,cap,hv,_,hcm,_,hr⟩:=aAg H.o.row;subst hv;obtain⟨b,rfl,hbb,hbl,hcell,hfr⟩:=hr zQ;have HC:=yH hcell;have HF:=yH hfr;have CR:=yH (fun w1 (b1:Below w.heap.size w w1)=>aMm (H.o.below b1) hp zQ);have hlf:=(HI.o.may _ (List.getElem_mem hp)).2.2.2.2.1;have HA:=yH (H.o.apart b rfl);have OP:=yH (fun w1 (b1:Below w.heap.size w w1) m=>owns_put (aAf H.o.row b1) hp m);clear hr hcell hfr;generalize hpk:posO l s=k at *;clear hpk;generalize hxk:l[k]=x at *;obtain⟨hlf1,hlf2⟩:=hlf;unfold maxLen at hcm
  by_cases hn1:n<1
  ·have E:=yH (show aGu l s n=1∧aDv l s n=l from by
    have e2:aGu l s n=1:=by unfold aGu;rw[hf];exact if_pos (.inl hn1)
    exact⟨e2,x8⟩)
   rw[E.o.1,E.o.2];clear hf CR OP SP SE;go_enter Tryz.func276,Tryz.ntmps276;go_wp2_with fail;refine C.o.mono ?_;rintro e w1 ⟨rfl,b1⟩;have HB1:=yH b1;clear b1 C hxk;go_wp2_with fail;go_ret;exact⟨rfl,_,H.o.below HB1.o,pAD HB1.o,aEj.refl _ _⟩
  by_cases hn2:x.lf<n
  ·have E:=yH (show aGu l s n=1∧aDv l s n=l from by
    have e2:aGu l s n=1:=by unfold aGu;rw[hf];exact if_pos (.inr hn2)
    exact⟨e2,x8⟩)
   rw[E.o.1,E.o.2];clear hf CR OP SP SE;go_enter Tryz.func276,Tryz.ntmps276;go_wp2_with fail;refine C.o.mono ?_;rintro e w1 ⟨rfl,b1⟩;have H1:=H.o.below b1;have d0:=H1.blk.cell 0;simp at d0;obtain⟨e0,e1,e2,e3,e4,e5,e6⟩:=aCv (w:=w1) (fun j hj=>zI) hp;rw[hxk]at e0 e1 e2 e3 e4 e5 e6;have HB1:=yH b1;clear b1 C H1 hxk;go_wp2_with fail;go_ret;exact⟨rfl,_,H.o.below HB1.o,pAD HB1.o,aEj.refl _ _⟩
  have e0':aGu l s n=0:=by unfold aGu;rw[hf];exact if_neg zQ
  have eL:aK6 l s=x.lf:=by unfold aK6;rw[hf]
  by_cases hn3:n=x.lf
  ·have E:=yH (show aGu l s n=0∧aDv l s n=l.eraseIdx k from⟨e0',by unfold aDv;rw[if_pos e0',eL,hn3,Int.sub_self,SE.o]⟩);rw[E.o.1,E.o.2];have q1:(n==x.lf)=true:=uN hn3
   clear hf OP SP SE e0' eL hn3;go_enter Tryz.func276,Tryz.ntmps276;go_wp2_with fail;refine C.o.mono ?_;rintro e w1 ⟨rfl,b1⟩;have H1:=H.o.below b1;have d0:=H1.blk.cell 0;simp at d0;obtain⟨e0,e1,e2,e3,e4,e5,e6⟩:=aCv (w:=w1) (fun j hj=>zI) hp;rw[hxk]at e0 e1 e2 e3 e4 e5 e6;have CR1:=yH (CR.o w1 b1);have HB1:=yH b1;clear b1 C H1 CR hxk;go_wp2_with fail;refine CR1.o.mono ?_;rintro e w2 ⟨rfl,vl',h2,k2,m2⟩;have R:=yH (And.intro h2 (And.intro k2 m2));clear h2 k2 m2;go_wp2_with fail;go_ret;exact⟨rfl,vl',R.o.1,(pAD HB1.o).trans R.o.2.1,fun b hb=>.inl (by rw[←R.o.2.2];exact hb)⟩
  have E:=yH (show aGu l s n=0∧aDv l s n=l.set k { x with lf:=x.lf - n }from⟨e0',by unfold aDv;rw[if_pos e0',eL,SP.o _ zQ]⟩);rw[E.o.1,E.o.2];have q1:(n==x.lf)=false:=uN hn3
  clear hf CR SP SE e0' eL hn3;go_enter Tryz.func276,Tryz.ntmps276;go_wp2_with fail;refine C.o.mono ?_;rintro e w1 ⟨rfl,b1⟩;have H1:=H.o.below b1;have d0:=H1.blk.cell 0;simp at d0;obtain⟨e0,e1,e2,e3,e4,e5,e6⟩:=aCv (w:=w1) (fun j hj=>zI) hp;rw[hxk]at e0 e1 e2 e3 e4 e5 e6;have hfz:w1.frozen? ⟨b,k*7+4,none⟩=false:=by rw[b1.frozen (p:=⟨b,k*7+4,none⟩) hbl];exact HF.o _
  have HO1:=yH (OP.o w1 b1 (x.lf - n));have HG:=yH H1.blk;have HB1:=yH b1;clear b1 C H1 OP hxk;go_wp2_with fail;go_ret;have k2:Keep (·=b) w1 (w1.setCell ⟨b,k*7+4,none⟩ (.int .i64 (x.lf - n))):=Keep.setCell (S:=(·=b)) (Keep.refl _ _) (p:=⟨b,k*7+4,none⟩) (.inl rfl) _;refine⟨rfl,_,⟨HG.o.keep k2 (fun e=>HA.o e.symm),H.o.ge,HO1.o⟩,((pAD HB1.o).trans k2).mono (fun j _ (hj:j=b)=>.inr (by rw[hj];rfl)),aEj.refl _ _⟩
 rw[show aEf l s=.tuple #[.int .i64 0,.int .i64 7] by unfold aEf;rw[if_neg hp]]at C;have hf:=aIn hp
 have E:=yH (show aGu l s n=7∧aDv l s n=l from by
  have e2:aGu l s n=7:=by unfold aGu;rw[hf]
  exact⟨e2,x8⟩)
 rw[E.o.1,E.o.2];clear hf hp;go_enter Tryz.func276,Tryz.ntmps276;go_wp2_with fail;refine C.o.mono ?_;rintro e w1 ⟨rfl,b1⟩;have HB1:=yH b1;clear b1 C;go_wp2_with fail;go_ret;exact⟨rfl,_,H.o.below HB1.o,pAD HB1.o,aEj.refl _ _⟩
theorem aJe{w:World}{base g:Nat}{l:List Of}{N:Int}{vl:Value}(h:PB w base g l N vl)(h1:1≤N)(s:Int):
  Calls Tryz.prog 162 #[.pointer (some ⟨g,0,none⟩),.int .u64 s] w (yR w (aQv (aBd l s))):=by
 have bw:=(Below.refl w.heap.size w).alloc yL (.cells #[.int .u64 0,.int .u8 0,.int .u8 0,.int .u8 0,.int .i64 0,.int .i64 0,.int .i64 0] 75);have h2:=h.below bw;have B:=yH bw;have H:=yH h2;have KR:=yH (Blk.new w #[.int .u64 0,.int .u8 0,.int .u8 0,.int .u8 0,.int .i64 0,.int .i64 0,.int .i64 0] 75);have C:=yH (aJ6 h2 h1 s);obtain⟨ao,cap,rfl,hc1,hc2,hc3,hc4⟩:=aAg h2.row;have HC:=yH hc4;unfold maxLen at hc2;clear hc3 hc4 h bw h2 h1
 by_cases hp:posO l s<l.length
 ·rw[show aEf l s=.tuple #[.int .i64 (posO l s:Nat),.int .i64 0] by unfold aEf;rw[if_pos hp]]at C;have E:=yH (aJ5 hp);generalize hpk:posO l s=k at *;clear hpk;go_enter Tryz.func162,Tryz.ntmps162;go_wp2_with fail;refine C.o.mono ?_;rintro e w1 ⟨rfl,b1⟩;obtain⟨b,rfl,hb1,hb2,hcell,_⟩:=HC.o zQ;have H1:=H.o.below b1;have d0:=H1.blk.cell 0;simp at d0;obtain⟨e0,e1,e2,e3,e4,e5,e6⟩:=aCv (w:=w1) (fun j hj=>by rw[b1.cell (p:=⟨b,j,none⟩) hb2];exact hcell j hj) hp;have KR1:=yB KR b1;have B1:=yT B b1;clear hcell b1 C H1 KR;generalize l[k]=x at *;go_wp2_with (refine aAa rfl 75 (.tmp 4) (.tmp 23) rfl w.heap.size #[.int .u64 x.se,.int .u8 x.ow,.int .u8 x.sl,.int .u8 x.bu,.int .i64 x.lf,.int .i64 x.nu,.int .i64 x.de] rfl rfl 75 _ KR1.o.out zW rfl zK ?_);rw[E.o];refine bodyPost_ret (v:=.tuple #[x.val,.bool true]) (aAi rfl _ _ w.heap.size 75 #[.int .u64 x.se,.int .u8 x.ow,.int .u8 x.sl,.int .u8 x.bu,.int .i64 x.lf,.int .i64 x.nu,.int .i64 x.de] _ _ rfl (setRow_heap _ w.heap.size _ _ _ (0,0) KR1.o.out) Tryz.underlying75 rfl zW rfl) rfl ⟨rfl,below_setRow B1.o yL _⟩
 rw[show aEf l s=.tuple #[.int .i64 0,.int .i64 7] by unfold aEf;rw[if_neg hp]]at C;have E:=yH (aIn hp);clear hp;go_enter Tryz.func162,Tryz.ntmps162;go_wp2_with fail;refine C.o.mono ?_;rintro e w1 ⟨rfl,b1⟩;have KR1:=yB KR b1;have B1:=yT B b1;clear b1 C KR;go_wp2_with (refine aAa rfl 75 (.tmp 4) (.tmp 16) rfl w.heap.size #[.int .u64 0,.int .u8 0,.int .u8 0,.int .u8 0,.int .i64 0,.int .i64 0,.int .i64 0] rfl rfl 75 _ KR1.o.out zW rfl zK ?_);rw[E.o];refine bodyPost_ret (v:=.tuple #[noOf.val,.bool false]) (aAi rfl _ _ w.heap.size 75 #[.int .u64 0,.int .u8 0,.int .u8 0,.int .u8 0,.int .i64 0,.int .i64 0,.int .i64 0] _ _ rfl (setRow_heap _ w.heap.size _ _ _ (0,0) KR1.o.out) Tryz.underlying75 rfl zW rfl) rfl ⟨rfl,below_setRow B1.o yL _⟩
def OwnPost(w:World)(e:TypeId)(l:List Of)(en:Ending)(w':World):Prop:=
 ∃v',en=.returned v'∧w'.ownsRow w.heap.size e 7 v' l.length (aAb l)∧Below w.heap.size w w'
theorem aOe{w:World}{base:Nat}{v:Value}{l:List Of}(h:w.ownsRow base 197 7 v l.length (aAb l))(hl:l.length≤1000):
  Calls Tryz.prog 114 #[v] w (OwnPost w 197 l):=by
 have q22:∀(w:World) (a:Option Addr) (n c n' c':Nat),(binOp .eql 156 (.slice a n c) (.slice none n' c')).run Tryz.prog w=.ok (.bool a.isNone) w:=fun w a n c n' c'=>Lib.run_eql_slice_nil w _ _ a n c n' c' Tryz.underlying156
 rcases h.2 with⟨rfl,h0⟩|⟨g,cap,cur,rfl,hbase,hb,h1,h2,h3,h4⟩
 ·have hl0:=List.eq_nil_of_length_eq_zero h0;subst hl0;clear h h0;go_enter Tryz.func114,Tryz.ntmps114;go_wp2;refine bodyPost_ret (v:=.slice none 0 0) (by simp[results,Tryz.results114,go_sem]) rfl ?_;exact⟨_,rfl,World.ownsRow_nil _ _ _ _,yZ⟩
 obtain⟨i0,hi1,hi2,hi3,hi4⟩:=info_parts aJd;have HC:=yH (h.cells (g:=g) rfl);have HL:=yH hl;have HX:=yH h.1;clear h hb h1 h2 h3 h4 hl;go_enter Tryz.func114,Tryz.ntmps114;go_wp2_with (at_builtin;refine wpList_append_own _ rfl _ _ 156 rfl w.heap.size 197 i0 zOff 7 40 Tryz.underlying156 hi1 hi2 hi3 hi4 rfl zX _ _ _ rfl (World.ownsRow_made w #[] 0 yL (Nat.zero_le _) zV) ⟨g,0,none⟩ l.length cap (aAb l) rfl ?qc1 ?qc2 ?qc3 ?qc4 ?qc5 ?qc6 ?_)
 case qc1=>exact HX.o
 case qc2=>
  intro j u hj;exact Lib.cell?_alloc_some _ (HC.o j u hj)
 case qc3=>exact aGy l
 case qc4=>rw[Nat.zero_add];have:=HL.o;unfold maxLen;omega
 case qc5=>rw[Nat.zero_add];have:=HL.o;omega
 case qc6=>simp
 intro v' w1 hown hgrow hnil;have HO:=yH (show w1.ownsRow w.heap.size 197 7 v' l.length (aAb l) by simpa using hown);have HB:=yH (((Below.refl w.heap.size w).alloc yL (.cells #[] 197)).grown hgrow zV (by intro k hk;simp[Value.ownBlock]at hk;omega));clear hown hgrow hnil;go_wp2;refine bodyPost_ret (v:=v') (by simp[results,Tryz.results114,go_sem]) rfl ?_;exact⟨v',rfl,HO.o,HB.o⟩
theorem clipO_any{w:World}{base:Nat}{v:Value}{n:Nat}{xs:List Value}(h:w.ownsRow base 75 7 v n xs):
  Calls Tryz.prog 145 #[v] w (aHi w base 75 7 n v xs):=by
 rcases h.2 with⟨rfl,h0⟩|⟨g,cap,cur,rfl,hbase,hb,h1,h2,h3,h4⟩
 ·subst h0;have hr:=aBi (P:=Tryz.prog) w 43 75 7 Tryz.underlying43 (Tryz.sizeOf75 w);have hx:=h.1;have hx2:=yH hx;clear h hx;go_enter Tryz.func145,Tryz.ntmps145;go_wp2;refine bodyPost_ret (v:=.slice none 0 0) (by simp[results,Tryz.results145,go_sem]) rfl ?_;exact⟨_,rfl,⟨hx2.out,.inl ⟨rfl,rfl⟩⟩,rfl,rfl⟩
 have hr:=aCg (P:=Tryz.prog) w 43 75 7 Tryz.underlying43 (Tryz.sizeOf75 w) g n cap h1;have HR:=yH (show aBk w base 75 7 (.slice (some ⟨g,0,none⟩) n n) n xs from⟨h.1,.inr ⟨g,cur,rfl,hbase,hb,zQ,zQ,h4⟩⟩);clear h hb h4 h3;unfold maxLen at h2;go_enter Tryz.func145,Tryz.ntmps145;go_wp2;refine bodyPost_ret (v:=.slice (some ⟨g,0,none⟩) n n) (by simp[results,Tryz.results145,go_sem]) rfl ?_;exact⟨_,rfl,HR.o,rfl,rfl⟩
def ToldAt(w:World)(l:List Of)(v i:Value)(wr:World):Prop:=
 ∃k:Nat,k≤l.length∧i=.int .i64 k∧wr.ownsRow w.heap.size 75 7 v (l.take k).length (aAb (l.take k))∧Below w.heap.size w wr
theorem told_any{w:World}{base:Nat}{v:Value}{l:List Of}(h:w.ownsRow base 197 7 v l.length (aAb l))(hl:l.length≤1000):
  Calls Tryz.prog 103 #[v] w (aFb w 75 7 l.length (aAb l)):=by
 obtain⟨ao,cap,rfl,hc1,hc2,hc3,hc4⟩:=aAg h;have HC:=yH hc4;unfold maxLen at hc2;clear hc3 hc4 h;go_enter Tryz.func103,Tryz.ntmps103;go_wp2_with fail
 go_loopw [3,8] (ToldAt w l) (fun _ i _=>l.length - (intOf i).toNat)
 case atStart=>exact⟨0,Nat.zero_le _,rfl,World.ownsRow_nil _ _ _ _,yZ⟩
 obtain⟨k,hk,rfl,hown,hb⟩:=hrel
 by_cases hkl:k<l.length
 ·obtain⟨b,rfl,hb1,hb2,hcell,_⟩:=HC.o zQ;obtain⟨e0,e1,e2,e3,e4,e5,e6⟩:=aCv (w:=wr) (fun j hj=>wO) hkl;have NX:=yH (List.take_succ_eq_append_getElem hkl);have hlk:(l.take k).length≤1000:=Nat.le_trans (List.length_take_le _ _) zQ;clear hcell;generalize l[k]=y at *;generalize l.take k=out at *;have bw:=(Below.refl wr.heap.size wr).alloc yL (.cells #[.int .u64 y.se,.int .u8 y.ow,.int .u8 y.sl,.int .u8 y.bu,.int .i64 y.lf,.int .i64 y.nu,.int .i64 y.de] 197);have OY:=yH (aAf hown bw);have BY:=yH (hb.trans (bw.mono hb.size));have hl2:out.length≤100000:=zQ
  clear hown hb bw;go_wp2_with (at_builtin;refine aK4 _ rfl (.tmp 12) (.tmp 14) rfl w.heap.size _ out rfl (OY.o.alloc _) _ _ y rfl (pAB _ _ _ zV) hl2 (by have:=BY.o.size;simp at this ⊢;omega) ?_);intro v3 w3 hown3 hgr3;have R2:∀k,Value.ownBlock _=some k→w.heap.size≤k:=fun k hk=>(aAe OY.o hk).1
  have B3:=yH ((BY.o.alloc BY.o.size _).grown hgr3 (by have:=BY.o.size;simp at this ⊢;omega) (fun k hk=>R2 k hk));have O3:=yH (show w3.ownsRow w.heap.size 75 7 v3 (out++[y]).length (aAb (out++[y])) by simpa using hown3);clear R2 hown3 hgr3;go_wp2_with fail;go_roundw
  case rel=>exact⟨k+1,zQ,by go_num,vC,B3.o⟩
  case measure=>simp[intOf];omega
 have hke:l.take k=l:=List.take_of_length_le zQ;rw[hke]at hown;have CC:=yH (clipO_any hown);have HB:=yH hb;clear hown hb hke;go_wp2_with fail;refine CC.o.mono ?_;rintro e w3 ⟨v',rfl,hrow,_,rfl⟩;have HRow:=yH hrow;clear hrow CC;go_wp2_with fail;refine bodyPost_ret (v:=v') (by simp[results,Tryz.results103,go_sem]) rfl ?_;exact⟨v',rfl,HRow.o,HB.o⟩
theorem pall_of{w:World}{base:Nat}{pv v:Value}{l:List Of}(hc:Calls Tryz.prog 104 #[pv] w (yS w v))(h:w.ownsRow base 197 7 v l.length (aAb l))(hl:l.length≤1000):
  Calls Tryz.prog 59 #[pv] w (aFb w 75 7 l.length (aAb l)):=by
 have C1:=yH hc;have C2:=yH (told_any h hl);clear hc h;go_enter Tryz.func59,Tryz.ntmps59;go_wp2_with fail;refine C1.o.mono ?_;rintro e w ⟨rfl,rfl⟩;go_wp2_with fail;refine C2.o.mono ?_;rintro e w1 ⟨v',rfl,h1,b1⟩;have H1:=yH (And.intro h1 b1);clear h1 b1;go_wp2_with fail;refine bodyPost_ret (v:=v') (by simp[results,Tryz.results59,go_sem]) rfl ?_;exact⟨v',rfl,H1.o.1,H1.o.2⟩
theorem pall_any{w:World}{base g:Nat}{l:List Of}{N:Int}{vl:Value}(h:PB w base g l N vl)(hl:l.length≤1000):
  Calls Tryz.prog 59 #[.pointer (some ⟨g,0,none⟩)] w (aFb w 75 7 l.length (aAb l)):=by
 obtain⟨ao,cap,rfl,_⟩:=aAg h.row;exact pall_of (ball_any h.blk) h.row hl
def aH6:Value:=.agg #[.int .u64 0,.int .u8 0,.int .u8 0,.int .i64 0,.int .i64 0]
def mayO(o:Of)(ps:List Int)(tk pt want most m1 m2:Int):Int:=if o.ow=tk∨o.ow∉ps∨tk∉ps∨pt∉ps∨want<1∨most<1 then 0 else
 min (if pt=o.ow then min want o.lf else min (min want o.lf) m1) (fitN (min (min most 1099511627776) m2) o.nu o.de)
def mayV(l:List Of)(ps:List Int)(s tk pt want most m1 m2:Int):Int:=match aBd l s with
 | none=>0
 | some o=>mayO o ps tk pt want most m1 m2
def Goes(ps:List Int)(ls:List Ln)(o:Of)(tk pt m1 m2:Int):Prop:=
 (∃μ,aAj (aAu ps ls o.sl) 4398046511104 o.ow pt aCc μ∧aCc - μ.left=m1)∧∃μ,aAj (aAu ps ls o.bu) 4398046511104 tk o.ow aCc μ∧aCc - μ.left=m2
theorem goes_ends{ps:List Int}{ls:List Ln}(h:LInv ps ls)(o:Of)(tk pt:Int):∃m1 m2,Goes ps ls o tk pt m1 m2:=by
 obtain⟨μ,h1⟩:=aDz (aAx h o.sl) o.ow pt aCc;obtain⟨ν,h2⟩:=aDz (aAx h o.bu) tk o.ow aCc;exact⟨_,_,⟨μ,h1,rfl⟩,ν,h2,rfl⟩
theorem aIo{f:Int→Int→Int}(h0:GInv f 4398046511104){s t:Int}{μ:RS}(h:aAj f 4398046511104 s t aCc μ):0≤aCc - μ.left∧aCc - μ.left≤1125899906842624:=by
 by_cases hi:inP s∧inP t∧s≠t
 ·exact aSk h h0 hi.2.2
 rw[aL7 h0 hi h];show 0≤aCc - aCc∧aCc - aCc≤1125899906842624;omega
theorem Goes.bd{ps:List Int}{ls:List Ln}(h:LInv ps ls){o:Of}{tk pt m1 m2:Int}(g:Goes ps ls o tk pt m1 m2):(0≤m1∧m1≤1125899906842624)∧0≤m2∧m2≤1125899906842624:=by
 obtain⟨⟨μ,h1,rfl⟩,ν,h2,rfl⟩:=g;exact⟨aIo (aAx h _) h1,aIo (aAx h _) h2⟩
def doOk(l:List Of)(ps:List Int)(s tk pt n m1 m2:Int):Prop:=1≤n∧n≤mayV l ps s tk pt n 1099511627776 m1 m2
theorem doOk.facts{l:List Of}{ps:List Int}{s tk pt n m1 m2:Int}(h:doOk l ps s tk pt n m1 m2):
  ∃o,aBd l s=some o∧(o.ow≠tk∧o.ow∈ps∧tk∈ps∧pt∈ps)∧n≤o.lf∧(pt=o.ow∨n≤m1)∧n≤fitN (min 1099511627776 m2) o.nu o.de:=by
 obtain⟨h1,h2⟩:=h;unfold mayV at h2
 cases hf:aBd l s with
 | none=>rw[hf]at h2;simp at h2;omega
 | some o=>
  rw[hf]at h2;simp only[mayO]at h2;split at h2
  ·omega
  rename_i hb;refine⟨o,rfl,⟨fun h=>hb (.inl h),Classical.byContradiction fun h=>hb (.inr (.inl h)),Classical.byContradiction fun h=>hb (.inr (.inr (.inl h))),Classical.byContradiction fun h=>hb (.inr (.inr (.inr (.inl h))))⟩,?_,?_,?_⟩
  ·split at h2 <;> omega
  ·split at h2
   ·rename_i h;exact .inl h
   exact .inr zQ
  have e:min (min 1099511627776 1099511627776) m2=min (1099511627776:Int) m2:=zQ
  rw[e]at h2;omega
theorem aTd{n g nu de:Int}(hm:mayB nu de=true)(h0:0≤g)(hg:g≤1099511627776)(hn:0≤n)(h:n≤fitN g nu de):
  upV2 n nu de=.tuple #[.int .i64 (upN (n*nu) de),.int .i64 0]∧0≤upN (n*nu) de∧upN (n*nu) de≤g:=by
 unfold fitN at h;rw[if_pos ⟨hm,h0⟩]at h;obtain⟨h1,h2,h3,h4,_⟩:=aE2 hm;have hu:=(up_le n nu g de hn h0 h1 h2 zQ).2 zQ
 have h5:0≤upN (n*nu) de:=by
  have:=Int.ediv_nonneg (Int.mul_nonneg hn (show 0≤nu by omega)) (show 0≤de by omega);unfold upN;split <;> omega
 refine⟨?_,h5,hu⟩;have hi:In64 (upN (n*nu) de):=⟨zQ,zQ⟩;rw[upV2,hm,if_pos rfl,upV,if_neg zQ,ans_of _ hi]
def aKs(ps:List Int)(ls:List Ln)(o:Of)(tk pt n x:Int)(ls':List Ln):Prop:=
 ∃ls1 τ,((pt=o.ow∧ls1=ls)∨(pt≠o.ow∧∃σ,aAj (aAu ps ls o.sl) 4398046511104 o.ow pt n σ∧ls1=payL ps ls o.ow pt o.sl n σ))∧aAj (aAu ps ls1 o.bu) 4398046511104 tk o.ow x τ∧ls'=payL ps ls1 tk o.ow o.bu x τ
theorem aKs.eq{ps:List Int}{ls:List Ln}{o:Of}{tk pt n x:Int}{l1 l2:List Ln}(h:aKs ps ls o tk pt n x l1)(g:aKs ps ls o tk pt n x l2):l1=l2:=by
 obtain⟨a,σ,ha,hσ,rfl⟩:=h;obtain⟨b,τ,hb,hτ,rfl⟩:=g
 have e:a=b:=by
  rcases ha with⟨h1,rfl⟩|⟨h1,α,h2,rfl⟩ <;> rcases hb with⟨k1,rfl⟩|⟨k1,β,k2,rfl⟩
  ·rfl
  ·exact absurd h1 k1
  ·exact absurd k1 h1
  rw[h2.eq k2]
 subst e;rw[hσ.eq hτ]
theorem aKs.inv{ps:List Int}{ls:List Ln}{o:Of}{tk pt n x:Int}{l1:List Ln}(h:aKs ps ls o tk pt n x l1)(hI:LInv ps ls):LInv ps l1:=by
 obtain⟨a,σ,ha,hσ,rfl⟩:=h;refine aLf ?_ _ _ _ _ _;rcases ha with⟨h1,rfl⟩|⟨h1,α,h2,rfl⟩
 ·exact hI
 exact aLf hI _ _ _ _ _
theorem fitN_nn{g nu de:Int}:0≤fitN g nu de:=by
 unfold fitN;split
 ·rename_i h;have:=aE2 h.1;have:=Int.ediv_nonneg (Int.mul_nonneg h.2 (show 0≤de by omega)) (show 0≤nu by omega);omega
 omega
theorem fitN_mono{a b nu de:Int}(h0:0≤a)(h:a≤b):fitN a nu de≤fitN b nu de:=by
 unfold fitN
 by_cases hm:mayB nu de=true
 ·rw[if_pos ⟨hm,h0⟩,if_pos ⟨hm,zQ⟩];have hb:=aE2 hm;have h1:a*de≤b*de:=Int.mul_le_mul_of_nonneg_right h zQ;have:=Int.ediv_le_ediv (show 0<nu by omega) h1;omega
 rw[if_neg (fun q=>hm q.1),if_neg (fun q=>hm q.1)];omega
theorem may_do{l:List Of}{ps:List Int}{s tk pt want most m1 m2 n:Int}(h1:0≤m1)(h2:0≤m2)(hn:mayV l ps s tk pt want most m1 m2=n)(h:1≤n):
  doOk l ps s tk pt n m1 m2∧n≤want∧1≤most∧∃o,aBd l s=some o∧n≤fitN (min (min most 1099511627776) m2) o.nu o.de:=by
 unfold mayV at hn
 cases hf:aBd l s with
 | none=>rw[hf]at hn;simp at hn;omega
 | some o=>
  rw[hf]at hn;simp only[mayO]at hn
  by_cases hb:o.ow=tk∨o.ow∉ps∨tk∉ps∨pt∉ps∨want<1∨most<1
  ·rw[if_pos hb]at hn;omega
  rw[if_neg hb]at hn
  have hb2:¬(o.ow=tk∨o.ow∉ps∨tk∉ps∨pt∉ps∨n<1∨(1099511627776:Int)<1):=by
   intro q;rcases q with q|q|q|q|q|q
   ·exact hb (.inl q)
   ·exact hb (.inr (.inl q))
   ·exact hb (.inr (.inr (.inl q)))
   ·exact hb (.inr (.inr (.inr (.inl q))))
   ·omega
   omega
  have hmn:=fitN_mono (nu:=o.nu) (de:=o.de) (a:=min (min most 1099511627776) m2) (b:=min (min 1099511627776 1099511627776) m2) zQ zQ;have hle:n≤want∧n≤fitN (min (min most 1099511627776) m2) o.nu o.de:=by split at hn <;> omega
  refine⟨⟨h,?_⟩,hle.1,zQ,o,rfl,hle.2⟩;unfold mayV;rw[hf];simp only[mayO];rw[if_neg hb2];split at hn
  ·rename_i hp;rw[if_pos hp];omega
  rename_i hp;rw[if_neg hp];omega
theorem take_facts{l:List Of}{N:Int}(h:BInv l N){s n:Int}{o:Of}(hf:aBd l s=some o)(h1:1≤n)(h2:n≤o.lf):
  aDv l s n=setO l s (o.lf - n):=by
 unfold aDv aGu aK6;rw[hf];simp only[];rw[if_pos (show(if n<1∨o.lf<n then(1:Int)else 0)=0 from if_neg zQ)]
theorem pay_goes{ps:List Int}{ls:List Ln}(hI:LInv ps ls){a b c n m:Int}{σ μ:RS}(ha:a∈ps)(hb:b∈ps)(hab:a≠b)(hc:1≤c∧c≤8)(h1:1≤n)(h2:n≤1099511627776)
  (hσ:aAj (aAu ps ls c) 4398046511104 a b n σ)(hμ:aAj (aAu ps ls c) 4398046511104 a b aCc μ)(hm:aCc - μ.left=m)(hnm:n≤m):
  payE ps a b c n σ=0∧payL ps ls a b c n σ=aC1 ps c ls σ.out∧n - σ.left=n:=by
 have pa:=hI.bd a ha;have pb:=hI.bd b hb;have MIN:=aQf hσ hμ (aAx hI c) pa pb hab h1;rw[hm]at MIN;have hg:n - σ.left=n:=uT MIN
 have PE:payE ps a b c n σ=0:=by
  unfold payE;rcases aSz (fun p=>decide (p∈ps)) a b c n (n - σ.left)with⟨_,q⟩|⟨_,_,q⟩|⟨_,_,_,_,q⟩|⟨q,_⟩
  ·exact absurd ⟨pa,pb,hab,hc.1,hc.2,h1,h2⟩ q
  ·rcases q with q|q
   ·exact absurd ha (uN q)
   exact absurd hb (uN q)
  ·omega
  exact q
 exact⟨PE,by unfold payL;rw[if_pos PE],hg⟩
theorem pay_pos{ps:List Int}{ls:List Ln}(hI:LInv ps ls){a b c n:Int}{σ:RS}(hσ:aAj (aAu ps ls c) 4398046511104 a b n σ)(hg:n - σ.left=n)(p d:Int):
  posL (aC1 ps c ls σ.out) p d=posL ls p d+(if d=c then(if b=p then n else 0) - (if a=p then n else 0)else 0):=by
 rw[aMi p σ.out hI hσ.good.1 d,hσ.net p,hg]
def aMo(o:Of)(tk pt n x p c:Int):Int:=
 (((if c=o.sl∧p=o.ow then -n else 0)+(if c=o.sl∧p=pt then n else 0))+(if c=o.bu∧p=tk then -x else 0))+(if c=o.bu∧p=o.ow then x else 0)
theorem aKt{ps:List Int}{ls ls':List Ln}(hI:LInv ps ls){l:List Of}{N:Int}(hJ:BInv l N){s tk pt n m1 m2 x:Int}{o:Of}(hf:aBd l s=some o)(hG:Goes ps ls o tk pt m1 m2)(hd:doOk l ps s tk pt n m1 m2)(hx:x=upN (n*o.nu) o.de)(hF:aKs ps ls o tk pt n x ls'):
  limL ls=limL ls'∧(∀p c,posL ls' p c=posL ls p c+aMo o tk pt n x p c)∧1≤x∧x≤1099511627776∧x≤m2:=by
 obtain⟨o',hf',⟨k1,k2,k3,k4⟩,k5,k6,k7⟩:=hd.facts;rw[hf]at hf'
 cases hf'
 have hB:=hG.bd hI;obtain⟨⟨μ,hμ,em⟩,ν,hν,en⟩:=hG;obtain⟨_,⟨s1,s2⟩,⟨b1,b2⟩,hsb,⟨l1,l2⟩,hm⟩:=hJ.may o (aCd hf).1;have hn1:=hd.1;have hb:=aE2 hm;obtain⟨u1,u2,u3⟩:=aTd hm (g:=min 1099511627776 m2) zQ zQ zQ k7;rw[←hx]at u2 u3
 have hx1:1≤x:=by
  have hp:1≤n*o.nu:=by have:=Int.mul_le_mul hn1 hb.1 zQ zQ;omega
  rw[hx];unfold upN;have h0:0≤n*o.nu/o.de:=Int.ediv_nonneg zQ zQ;split
  ·rename_i h;have hd2:=Int.mul_ediv_add_emod (n*o.nu) o.de;rw[h]at hd2;rcases Int.lt_or_le (n*o.nu/o.de) 1 with k|k
   ·have:n*o.nu/o.de=0:=zQ
    rw[this]at hd2;omega
   exact k
  omega
 obtain⟨ls1,τ,hA,hτ,rfl⟩:=hF
 have hroom:LInv ps ls1∧aAu ps ls1 o.bu=aAu ps ls o.bu∧limL ls=limL ls1∧∀p c,posL ls1 p c=posL ls p c+((if c=o.sl∧p=o.ow then -n else 0)+(if c=o.sl∧p=pt then n else 0)):=by
  rcases hA with⟨hp,rfl⟩|⟨hp,σ,hσ,rfl⟩
  ·refine⟨hI,rfl,rfl,fun p c=>?_⟩;subst hp
   by_cases h:c=o.sl∧p=o.ow
   ·rw[if_pos h,if_pos h];omega
   rw[if_neg h,if_neg h];omega
  have hn:n≤m1:=by rcases k6 with h|h;exact absurd h hp;exact h
  obtain⟨e1,e2,e3⟩:=pay_goes hI k2 k4 (fun e=>hp e.symm) ⟨s1,s2⟩ hn1 zQ hσ hμ em hn;rw[e2];refine⟨aF4 _ hI,aKo hsb _ hI,(aG2 _ hI).symm,fun p c=>?_⟩;rw[pay_pos hI hσ e3];clear hμ hν hσ hτ hm hx hb u1
  repeat' split
  all_goals omega
 obtain⟨hI1,hr,hl,hpos⟩:=hroom;rw[hr]at hτ;rw[←hr]at hν hτ;obtain⟨e1,e2,e3⟩:=pay_goes hI1 k3 k2 (fun e=>k1 e.symm) ⟨b1,b2⟩ hx1 zQ hτ hν en zQ;rw[e2];refine⟨hl.trans (aG2 _ hI1).symm,fun p c=>?_,hx1,zQ,zQ⟩;rw[pay_pos hI1 hτ e3,hpos];unfold aMo;generalize (if c=o.sl∧p=o.ow then -n else 0)+(if c=o.sl∧p=pt then n else 0)=S;clear hμ hν hτ hm hx hb u1 hpos
 repeat' split
 all_goals omega
theorem aMp{ps:List Int}{ls:List Ln}(hI:LInv ps ls)(l:List Of)(s tk pt:Int):∃m1 m2,(∀o,aBd l s=some o→Goes ps ls o tk pt m1 m2)∧0≤m1∧0≤m2:=by
 cases hf:aBd l s with
 | none=>exact⟨0,0,(fun o h=>xW),zQ,zQ⟩
 | some o=>
  obtain⟨m1,m2,g⟩:=goes_ends hI o tk pt;have:=g.bd hI;exact⟨m1,m2,(fun o' h=>by cases h;exact g),zQ,zQ⟩
def aCb(x y:Of):Bool:=decide (cmpR y.nu y.de x.nu x.de≤0)
def insO(out:List Of)(x:Of):List Of:=out.takeWhile (aCb x)++x::out.dropWhile (aCb x)
def aF6(s b:Int)(out:List Of)(x:Of):List Of:=if x.sl=s∧x.bu=b then insO out x else out
def aC5(l:List Of)(s b:Int):List Of:=l.foldl (aF6 s b) []
def ltO(x y:Of):Prop:=x.nu*y.de<y.nu*x.de∨(x.nu*y.de=y.nu*x.de∧x.se<y.se)
def ordO(x y:Of):Int:=orI (cmpR x.nu x.de y.nu y.de) (cmpI x.se y.se)
theorem aLi{an ad bn bd:Int}(h1:mayB an ad=true)(h2:mayB bn bd=true):cmpR an ad bn bd=cmpI (an*bd) (bn*ad):=by unfold cmpR;rw[if_pos ⟨h1,h2⟩]
theorem ordO_lt{x y:Of}(hx:x.may)(hy:y.may):ordO x y<0↔ltO x y:=by
 unfold ordO;rw[aLi hx.2.2.2.2.2 hy.2.2.2.2.2];unfold ltO orI cmpI;generalize x.nu*y.de=p;generalize y.nu*x.de=q
 (repeat' split) <;> omega
theorem sgn3{a1 d1 a2 d2 a3 d3:Int}(h1:1≤d1)(h2:1≤d2)(h3:1≤d3):d2*(a1*d3 - a3*d1)=d3*(a1*d2 - a2*d1)+d1*(a2*d3 - a3*d2):=by
 simp only[Int.mul_sub];have e1:d2*(a1*d3)=d3*(a1*d2):=by rw[←Int.mul_assoc,Int.mul_comm d2 a1,Int.mul_comm d3,Int.mul_assoc]
 have e2:d2*(a3*d1)=d1*(a3*d2):=by rw[←Int.mul_assoc,Int.mul_comm d2 a3,Int.mul_comm d1,Int.mul_assoc]
 have e3:d3*(a2*d1)=d1*(a2*d3):=by rw[←Int.mul_assoc,Int.mul_comm d3 a2,Int.mul_comm d1,Int.mul_assoc]
 omega
theorem aQz{d1 d2 d3 u v t:Int}(h1:1≤d1)(h2:1≤d2)(h3:1≤d3)(h:d2*t=d3*u+d1*v):(u<0→v≤0→t<0)∧(u≤0→v<0→t<0)∧(u=0→v=0→t=0)∧(0<u→0≤v→0<t)∧(0≤u→0<v→0<t):=by
 refine⟨fun a b=>?_,fun a b=>?_,fun a b=>?_,fun a b=>?_,fun a b=>?_⟩
 ·have p:=Int.mul_neg_of_pos_of_neg (show 0<d3 by omega) a;have q:=Int.mul_nonpos_of_nonneg_of_nonpos (show 0≤d1 by omega) b
  by_cases c:0≤t
  ·have:=Int.mul_nonneg (show 0≤d2 by omega) c;omega
  omega
 ·have p:=Int.mul_neg_of_pos_of_neg (show 0<d1 by omega) b;have q:=Int.mul_nonpos_of_nonneg_of_nonpos (show 0≤d3 by omega) a
  by_cases c:0≤t
  ·have:=Int.mul_nonneg (show 0≤d2 by omega) c;omega
  omega
 ·subst a b;rw[Int.mul_zero,Int.mul_zero,Int.add_zero]at h;rcases Int.mul_eq_zero.1 h with e|e <;> omega
 ·have p:=Int.mul_pos (show 0<d3 by omega) a;have q:=Int.mul_nonneg (show 0≤d1 by omega) b
  by_cases c:t≤0
  ·have:=Int.mul_nonpos_of_nonneg_of_nonpos (show 0≤d2 by omega) c;omega
  omega
 have p:=Int.mul_pos (show 0<d1 by omega) b;have q:=Int.mul_nonneg (show 0≤d3 by omega) a
 by_cases c:t≤0
 ·have:=Int.mul_nonpos_of_nonneg_of_nonpos (show 0≤d2 by omega) c;omega
 omega
theorem Of.may.de{x:Of}(h:x.may):1≤x.de:=(aE2 h.2.2.2.2.2).2.1
theorem aQ0{x y z:Of}(hx:x.may)(hy:y.may)(hz:z.may)(h1:ltO x y)(h2:ltO y z):ltO x z:=by
 have k:=aQz hx.de hy.de hz.de (sgn3 (a1:=x.nu) (a2:=y.nu) (a3:=z.nu) hx.de hy.de hz.de);unfold ltO at *;generalize x.nu*y.de=a at *;generalize y.nu*x.de=b at *;generalize y.nu*z.de=c at *;generalize z.nu*y.de=d at *;generalize x.nu*z.de=e at *;generalize z.nu*x.de=f at *;obtain⟨k1,k2,k3,k4,k5⟩:=k;rcases h1 with h1|⟨h1,s1⟩
 ·have:=k1 zQ zQ;omega
 rcases h2 with h2|⟨h2,s2⟩
 ·have:=k2 zQ zQ;omega
 have:=k3 zQ zQ;omega
theorem ltO_ntrans{x y z:Of}(hx:x.may)(hy:y.may)(hz:z.may)(h1:¬ltO x y)(h2:¬ltO y z):¬ltO x z:=by
 have k:=aQz hx.de hy.de hz.de (sgn3 (a1:=x.nu) (a2:=y.nu) (a3:=z.nu) hx.de hy.de hz.de);unfold ltO at *;generalize x.nu*y.de=a at *;generalize y.nu*x.de=b at *;generalize y.nu*z.de=c at *;generalize z.nu*y.de=d at *;generalize x.nu*z.de=e at *;generalize z.nu*x.de=f at *;obtain⟨k1,k2,k3,k4,k5⟩:=k
 by_cases u:b<a
 ·have:=k4 zQ zQ;omega
 by_cases v:d<c
 ·have:=k5 zQ zQ;omega
 have:=k3 zQ zQ;omega
theorem ltO_irrefl(x:Of):¬ltO x x:=by unfold ltO;omega
theorem ltO_total{x y:Of}(h:x.se≠y.se)(h1:¬ltO x y):ltO y x:=by
 unfold ltO at *;generalize x.nu*y.de=a at *;generalize y.nu*x.de=b at *;omega
theorem ltO_asymm{x y:Of}(h1:ltO x y)(h2:ltO y x):False:=by
 unfold ltO at *;generalize x.nu*y.de=a at *;generalize y.nu*x.de=b at *;omega
theorem noWorse_lt{x y:Of}(hx:x.may)(hy:y.may)(hs:y.se<x.se)(h:aCb x y=true):ltO y x:=by
 unfold aCb at h;rw[aLi hy.2.2.2.2.2 hx.2.2.2.2.2]at h;unfold ltO;generalize x.nu*y.de=a at *;generalize y.nu*x.de=b at *;unfold cmpI at h;split at h
 ·omega
 split at h
 ·simp at h
 omega
theorem worse_lt{x y:Of}(hx:x.may)(hy:y.may)(h:aCb x y=false):ltO x y:=by
 unfold aCb at h;rw[aLi hy.2.2.2.2.2 hx.2.2.2.2.2]at h;unfold ltO;generalize x.nu*y.de=a at *;generalize y.nu*x.de=b at *;unfold cmpI at h;split at h
 ·simp at h
 split at h
 ·omega
 simp at h
theorem insO_perm(out:List Of)(x:Of):(insO out x).Perm (out++[x]):=by
 unfold insO;have h1:(out.takeWhile (aCb x)++x::out.dropWhile (aCb x)).Perm (x::(out.takeWhile (aCb x)++out.dropWhile (aCb x))):=List.perm_middle;rw[List.takeWhile_append_dropWhile]at h1;exact h1.trans (List.perm_append_singleton x out).symm
theorem aF7{p:Of→Bool}:∀{l:List Of} {y:Of},y∈l.takeWhile p→p y=true
 | x::r,y,h=>by
  rw[List.takeWhile_cons]at h;split at h
  ·rcases List.mem_cons.1 h with rfl|h
   ·assumption
   exact aF7 h
  simp at h
theorem aTe{out:List Of}{x:Of}(hm:∀y∈out,y.may)(hx:x.may)(hs:∀y∈out,y.se<x.se)(ho:out.Pairwise ltO):(insO out x).Pairwise ltO:=by
 unfold insO;have hsplit:out.takeWhile (aCb x)++out.dropWhile (aCb x)=out:=List.takeWhile_append_dropWhile;have h1:∀y∈out.takeWhile (aCb x),y∈out∧aCb x y=true:=fun y hy=>⟨by rw[←hsplit];exact List.mem_append_left _ hy,aF7 hy⟩
 have h2:∀y∈out.dropWhile (aCb x),y∈out:=fun y hy=>by rw[←hsplit];exact List.mem_append_right _ hy
 rw[←hsplit,List.pairwise_append]at ho;obtain⟨o1,o2,o3⟩:=ho
 have h3:∀y∈out.dropWhile (aCb x),ltO x y:=by
  cases hd:out.dropWhile (aCb x)with
  | nil=>simp
  | cons z r=>
   rw[hd]at o2 h2
   have hz:aCb x z=false:=by
    have:=List.head_dropWhile_not (aCb x) (l:=out) (by rw[hd];simp);simpa [hd]using this
   have hz2:=worse_lt hx (hm z (h2 z zV)) hz;intro y hy;rcases List.mem_cons.1 hy with rfl|hy
   ·exact hz2
   exact aQ0 hx (hm z (h2 z zV)) (hm y (h2 y vL)) hz2 ((List.pairwise_cons.1 o2).1 y hy)
 rw[List.pairwise_append];refine⟨o1,List.pairwise_cons.2 ⟨h3,o2⟩,fun y hy z hz=>?_⟩;obtain⟨hyo,hyn⟩:=h1 y hy;have hyx:=noWorse_lt hx (hm y hyo) (hs y hyo) hyn;rcases List.mem_cons.1 hz with rfl|hz
 ·exact hyx
 exact o3 y hy z hz
def aBf(s b:Int)(x:Of):Bool:=decide (x.sl=s∧x.bu=b)
theorem aJ7{s b:Int}:∀(l out:List Of),(∀x∈l,x.may)→(∀x∈out,x.may)→l.Pairwise (fun x y=>x.se<y.se)→(∀y∈out,∀x∈l,y.se<x.se)→out.Pairwise ltO→
  (l.foldl (aF6 s b) out).Perm (out++l.filter (aBf s b))∧(l.foldl (aF6 s b) out).Pairwise ltO
 | [],out,_,_,_,_,ho=>yX
 | x::r,out,h1,h2,h3,h4,ho=>by
  obtain⟨h3a,h3b⟩:=List.pairwise_cons.1 h3;rw[List.foldl_cons]
  by_cases hp:x.sl=s∧x.bu=b
  ·have e:aF6 s b out x=insO out x:=by unfold aF6;rw[if_pos hp]
   have hi:=insO_perm out x
   have hmem:∀y∈insO out x,y∈out∨y=x:=fun y hy=>by
    have:=hi.mem_iff.1 hy;simpa using this
   rw[e]
   obtain⟨p,q⟩:=aJ7 r (insO out x) (fun y hy=>h1 y vL) (fun y hy=>by rcases hmem y hy with h|rfl;exact h2 y h;exact h1 y zV) h3b
    (fun y hy z hz=>by rcases hmem y hy with h|rfl;exact h4 y h z xD;exact h3a z hz) (aTe h2 (h1 x zV) (fun y hy=>h4 y hy x zV) ho)
   refine⟨p.trans ?_,q⟩;rw[List.filter_cons,if_pos (by unfold aBf;simpa using hp)];exact(hi.append_right _).trans zV
  have e:aF6 s b out x=out:=by unfold aF6;rw[if_neg hp]
  rw[e];obtain⟨p,q⟩:=aJ7 r out (fun y hy=>h1 y vL) h2 h3b (fun y hy z hz=>h4 y hy z xD) ho;refine⟨?_,q⟩;rw[List.filter_cons,if_neg (by unfold aBf;simpa using hp)];exact p
theorem bestO_is{l:List Of}(h1:∀x∈l,x.may)(h3:l.Pairwise (fun x y=>x.se<y.se))(s b:Int):(aC5 l s b).Perm (l.filter (aBf s b))∧(aC5 l s b).Pairwise ltO:=by
 have:=aJ7 (s:=s) (b:=b) l [] h1 zV h3 zV List.Pairwise.nil;simpa [aC5]using this
noncomputable def aBz(f:Int→Int→Int)(a b n:Int):RS:=@Classical.epsilon RS ⟨⟨f,n,[]⟩⟩ (fun μ=>aAj f 4398046511104 a b n μ)
theorem aCe{f:Int→Int→Int}(h:GInv f 4398046511104)(a b n:Int):aAj f 4398046511104 a b n (aBz f a b n):=
 @Classical.epsilon_spec RS (fun μ=>aAj f 4398046511104 a b n μ) (aDz h a b n)
noncomputable def aJf(ps:List Int)(ls:List Ln)(c a b:Int):Int:=aCc - (aBz (aAu ps ls c) a b aCc).left
theorem goesS{ps:List Int}{ls:List Ln}(h:LInv ps ls)(o:Of)(tk pt:Int):Goes ps ls o tk pt (aJf ps ls o.sl o.ow pt) (aJf ps ls o.bu tk o.ow):=
 ⟨⟨_,aCe (aAx h _) _ _ _,rfl⟩,_,aCe (aAx h _) _ _ _,rfl⟩
theorem Goes.eqS{ps:List Int}{ls:List Ln}{o:Of}{tk pt m1 m2:Int}(h:LInv ps ls)(g:Goes ps ls o tk pt m1 m2):m1=aJf ps ls o.sl o.ow pt∧m2=aJf ps ls o.bu tk o.ow:=by
 obtain⟨⟨μ,h1,rfl⟩,ν,h2,rfl⟩:=g;unfold aJf;rw[h1.eq (aCe (aAx h _) _ _ _),h2.eq (aCe (aAx h _) _ _ _)];exact⟨rfl,rfl⟩
theorem mostS_bd{ps:List Int}{ls:List Ln}(h:LInv ps ls)(c a b:Int):0≤aJf ps ls c a b∧aJf ps ls c a b≤1125899906842624:=
 aIo (aAx h c) (aCe (aAx h c) a b aCc)
noncomputable def mayS(ps:List Int)(ls:List Ln)(l:List Of)(tk pt want most s:Int):Int:=match aBd l s with
 | none=>0
 | some o=>mayO o ps tk pt want most (aJf ps ls o.sl o.ow pt) (aJf ps ls o.bu tk o.ow)
theorem aPf{ps:List Int}{ls:List Ln}(h:LInv ps ls){l:List Of}{tk pt want most s m1 m2:Int}(g:∀o,aBd l s=some o→Goes ps ls o tk pt m1 m2):mayV l ps s tk pt want most m1 m2=mayS ps ls l tk pt want most s:=by
 unfold mayV mayS
 cases hf:aBd l s with
 | none=>rfl
 | some o=>
  obtain⟨e1,e2⟩:=(g o hf).eqS h;simp only[];rw[e1,e2]
noncomputable def paidS(ps:List Int)(ls:List Ln)(a b c n:Int):List Ln:=payL ps ls a b c n (aBz (aAu ps ls c) a b n)
noncomputable def aC2(ps:List Int)(ls:List Ln)(o:Of)(tk pt n x:Int):List Ln:=paidS ps (if pt=o.ow then ls else paidS ps ls o.ow pt o.sl n) tk o.ow o.bu x
theorem aQ1{ps:List Int}{ls:List Ln}(h:LInv ps ls)(a b c n:Int):LInv ps (paidS ps ls a b c n):=aLf h _ _ _ _ _
theorem aHo{ps:List Int}{ls:List Ln}(h:LInv ps ls)(o:Of)(tk pt n x:Int):aKs ps ls o tk pt n x (aC2 ps ls o tk pt n x):=by
 unfold aC2
 by_cases e:pt=o.ow
 ·rw[if_pos e];exact⟨ls,_,.inl ⟨e,rfl⟩,aCe (aAx h _) _ _ _,rfl⟩
 rw[if_neg e];exact⟨_,_,.inr ⟨e,_,aCe (aAx h _) _ _ _,rfl⟩,aCe (aAx (aQ1 h _ _ _ _) _) _ _ _,rfl⟩
theorem aMq{ps:List Int}{ls:List Ln}(h:LInv ps ls)(o:Of)(tk pt n x:Int):LInv ps (aC2 ps ls o tk pt n x):=(aHo h o tk pt n x).inv h
def okS(ps:List Int)(ls:List Ln)(l:List Of)(tk pt n s:Int):Prop:=1≤n∧n≤mayS ps ls l tk pt n 1099511627776 s
theorem aMr{ps:List Int}{ls:List Ln}(h:LInv ps ls){l:List Of}{tk pt n s m1 m2:Int}(g:∀o,aBd l s=some o→Goes ps ls o tk pt m1 m2):doOk l ps s tk pt n m1 m2↔okS ps ls l tk pt n s:=by
 unfold doOk okS;rw[aPf h g]
theorem may_okS{ps:List Int}{ls:List Ln}(h:LInv ps ls){l:List Of}{tk pt want most s k:Int}(hk:k=mayS ps ls l tk pt want most s)(h1:1≤k):okS ps ls l tk pt k s∧k≤want:=by
 obtain⟨m1,m2,g,b1,b2⟩:=aMp h l s tk pt;have e:mayV l ps s tk pt want most m1 m2=k:=by rw[aPf h g,hk]
 obtain⟨a,b,_⟩:=may_do b1 b2 e h1;exact⟨(aMr h g).1 a,b⟩
noncomputable def aAy(ps:List Int)(ls:List Ln)(l:List Of)(tk pt want most:Int):List Of→Option (Int×Int)
 | []=>none
 | o::os=>if 0<mayS ps ls l tk pt want most o.se then some (o.se,mayS ps ls l tk pt want most o.se)else aAy ps ls l tk pt want most os
theorem aIp{ps:List Int}{ls:List Ln}{l:List Of}{tk pt want most:Int}:∀{os:List Of} {s k:Int},aAy ps ls l tk pt want most os=some (s,k)→0<k∧k=mayS ps ls l tk pt want most s∧∃o∈os,o.se=s
 | [],s,k,h=>by simp[aAy]at h
 | o::os,s,k,h=>by
  unfold aAy at h;split at h
  ·rename_i hp;simp only[Option.some.injEq,Prod.mk.injEq]at h;obtain⟨rfl,rfl⟩:=h;exact⟨hp,rfl,o,List.mem_cons_self,rfl⟩
  obtain⟨h1,h2,o',h3,h4⟩:=aIp h;exact⟨h1,h2,o',List.mem_cons_of_mem _ h3,h4⟩
structure Fl where
 se:Int
 got:Int
 gi:Int
structure SwS where
 ls:List Ln
 l:List Of
 fs:List Fl
 n:Int
noncomputable def aMs(ps:List Int)(tk pt:Int)(σ:SwS)(s k:Int):SwS:=match aBd σ.l s with
 | none=>σ
 | some o=>⟨aC2 ps σ.ls o tk pt k (upN (k*o.nu) o.de),aDv σ.l s k,σ.fs++[⟨s,k,upN (k*o.nu) o.de⟩],σ.n - k⟩
noncomputable def aB4(ps:List Int)(tk pt get give:Int):Nat→SwS→Int×SwS
 | fuel,σ=>if σ.n≤0 then(0,σ)else match aAy ps σ.ls σ.l tk pt σ.n 1099511627776 (aC5 σ.l get give)with
  | none=>(11,σ)
  | some (s,k)=>if σ.fs.length=64 then(13,σ)else match fuel with
   | 0=>(13,σ)
   | f+1=>aB4 ps tk pt get give f (aMs ps tk pt σ s k)
theorem aHp{ps:List Int}{tk pt get give:Int}{fuel:Nat}{σ:SwS}(h:σ.n≤0):aB4 ps tk pt get give fuel σ=(0,σ):=by
 cases fuel <;> (unfold aB4;rw[if_pos h])
theorem aHq{ps:List Int}{tk pt get give:Int}{fuel:Nat}{σ:SwS}(h:¬σ.n≤0)(hf:aAy ps σ.ls σ.l tk pt σ.n 1099511627776 (aC5 σ.l get give)=none):aB4 ps tk pt get give fuel σ=(11,σ):=by
 cases fuel <;> (unfold aB4;rw[if_neg h,hf])
theorem aHr{ps:List Int}{tk pt get give:Int}{fuel:Nat}{σ:SwS}{s k:Int}(h:¬σ.n≤0)(hf:aAy ps σ.ls σ.l tk pt σ.n 1099511627776 (aC5 σ.l get give)=some (s,k))(hl:σ.fs.length=64):aB4 ps tk pt get give fuel σ=(13,σ):=by
 cases fuel <;> (unfold aB4;rw[if_neg h,hf];simp only[];rw[if_pos hl])
theorem aHs{ps:List Int}{tk pt get give:Int}{fuel:Nat}{σ:SwS}{s k:Int}(h:¬σ.n≤0)(hf:aAy ps σ.ls σ.l tk pt σ.n 1099511627776 (aC5 σ.l get give)=some (s,k))(hl:¬σ.fs.length=64):aB4 ps tk pt get give (fuel+1) σ=aB4 ps tk pt get give fuel (aMs ps tk pt σ s k):=by
 conv=>lhs;unfold aB4
 rw[if_neg h,hf];simp only[];rw[if_neg hl]
def aD1(fr pt get give n most:Int):Prop:=(1≤fr∧fr≤16)∧(1≤pt∧pt≤16)∧(1≤get∧get≤8)∧(1≤give∧give≤8)∧get≠give∧(1≤n∧n≤1099511627776)∧1≤most∧most≤1099511627776
instance(fr pt get give n most:Int):Decidable (aD1 fr pt get give n most):=by unfold aD1;infer_instance
noncomputable def aDw(ps:List Int)(ls:List Ln)(l:List Of)(fr pt get give n most:Int):Int×SwS:=
 if ¬aD1 fr pt get give n most then(1,⟨ls,l,[],n⟩)else if fr∉ps∨pt∉ps then(7,⟨ls,l,[],n⟩)else
  if(aB4 ps fr pt get give 64 ⟨ls,l,[],n⟩).1≠0 then aB4 ps fr pt get give 64 ⟨ls,l,[],n⟩else
  if most<((aB4 ps fr pt get give 64 ⟨ls,l,[],n⟩).2.fs.map Fl.gi).sum then(12,(aB4 ps fr pt get give 64 ⟨ls,l,[],n⟩).2)else aB4 ps fr pt get give 64 ⟨ls,l,[],n⟩
theorem aJg{l:List Of}{N:Int}(h:BInv l N){s b:Int}{o:Of}(ho:o∈aC5 l s b):o∈l∧o.sl=s∧o.bu=b:=by
 have h1:=((bestO_is h.may h.rise s b).1.mem_iff).1 ho;rw[List.mem_filter]at h1;obtain⟨h2,h3⟩:=h1;simp[aBf]at h3;exact⟨h2,h3.1,h3.2⟩
theorem aJ8{l:List Of}{N:Int}(h:BInv l N){o:Of}(ho:o∈l):aBd l o.se=some o:=by
 cases hf:aBd l o.se with
 | none=>
  unfold aBd at hf;rw[List.find?_eq_none]at hf;exact absurd zV (hf o ho)
 | some o'=>
  obtain⟨h1,h2⟩:=aCd hf
  have key:∀{m:List Of},m.Pairwise (fun x y=>x.se<y.se)→o∈m→o'∈m→o=o':=by
   intro m hm
   induction m with
   | nil=>intro a;cases a
   | cons z m ih=>
    intro a b;have hz:=(List.pairwise_cons.1 hm).1;rcases List.mem_cons.1 a with ea|a
    ·rcases List.mem_cons.1 b with eb|b
     ·rw[ea,eb]
     have:=hz _ b;rw[←ea]at this;omega
    rcases List.mem_cons.1 b with eb|b
    ·have:=hz _ a;rw[←eb]at this;omega
    exact ih (List.pairwise_cons.1 hm).2 a b
  rw[key h.rise ho h1]
def likeO(a b:Of):Prop:=a.ow=b.ow∧a.sl=b.sl∧a.bu=b.bu∧a.nu=b.nu∧a.de=b.de
theorem aQ2{l:List Of}{N:Int}(h:BInv l N){s n:Int}{o:Of}(hf:aBd l s=some o)(h1:1≤n)(h2:n≤o.lf){t:Int}{x:Of}(hx:aBd (aDv l s n) t=some x):∃y,aBd l t=some y∧likeO y x:=by
 obtain⟨hm,hs⟩:=aCd hx;rw[take_facts h hf h1 h2]at hm;obtain⟨_,y,hy,hor⟩:=aLh hm;rcases hor with rfl|⟨_,rfl⟩
 ·exact⟨x,by rw[←hs];exact aJ8 h hy,rfl,rfl,rfl,rfl,rfl⟩
 exact⟨y,by rw[←hs];exact aJ8 h hy,rfl,rfl,rfl,rfl,rfl⟩
def flBy(l0:List Of)(tk pt:Int)(f:Fl)(p c:Int):Int:=match aBd l0 f.se with
 | none=>0
 | some o=>aMo o tk pt f.got f.gi p c
structure aE3(ps:List Int)(ls0:List Ln)(l0:List Of)(N tk pt get give n0:Int)(σ:SwS):Prop where
 linv:LInv ps σ.ls
 binv:BInv σ.l N
 lim:limL σ.ls=limL ls0
 like:∀s o,aBd σ.l s=some o→∃y,aBd l0 s=some y∧likeO y o
 fs:∀f∈σ.fs,∃o,aBd l0 f.se=some o∧o.sl=get∧o.bu=give∧o.ow≠tk∧o.ow∈ps∧(1≤f.got∧f.got≤1099511627776)∧1≤f.gi∧f.gi≤1099511627776
 sum:(σ.fs.map Fl.got).sum+σ.n=n0
 pos:∀p c,posL σ.ls p c=posL ls0 p c+(σ.fs.map fun f=>flBy l0 tk pt f p c).sum
theorem aE3.start{ps:List Int}{ls0:List Ln}{l0:List Of}{N tk pt get give n0:Int}(hI:LInv ps ls0)(hJ:BInv l0 N):aE3 ps ls0 l0 N tk pt get give n0 ⟨ls0,l0,[],n0⟩:=
 ⟨hI,hJ,rfl,fun s o h=>⟨o,h,rfl,rfl,rfl,rfl,rfl⟩,fun f hf=>(by cases hf),zV,fun p c=>zV⟩
theorem aE3.step{ps:List Int}{ls0:List Ln}{l0:List Of}{N tk pt get give n0:Int}{σ:SwS}(h:aE3 ps ls0 l0 N tk pt get give n0 σ){s k:Int}(hf:aAy ps σ.ls σ.l tk pt σ.n 1099511627776 (aC5 σ.l get give)=some (s,k)):
  1≤k∧k≤σ.n∧okS ps σ.ls σ.l tk pt k s∧(∃o,aBd σ.l s=some o∧o∈aC5 σ.l get give∧k≤o.lf)∧aE3 ps ls0 l0 N tk pt get give n0 (aMs ps tk pt σ s k):=by
 obtain⟨h1,h2,o,h3,rfl⟩:=aIp hf;obtain⟨hm,hsl,hbu⟩:=aJg h.binv h3;have hfo:=aJ8 h.binv hm;obtain⟨ok,hle⟩:=may_okS h.linv h2 zQ;have hG:=goesS h.linv o tk pt;have hG':∀o',aBd σ.l o.se=some o'→Goes ps σ.ls o' tk pt (aJf ps σ.ls o.sl o.ow pt) (aJf ps σ.ls o.bu tk o.ow):=fun o' ho'=>by rw[hfo]at ho';cases ho';exact hG
 have hd:=(aMr h.linv hG').2 ok;obtain⟨o',ho',⟨k1,k2,k3,k4⟩,k5,_,_⟩:=hd.facts;rw[hfo]at ho'
 cases ho'
 obtain⟨f1,f2,f3,f4,f5⟩:=aKt h.linv h.binv hfo hG hd rfl (aHo h.linv o tk pt k (upN (k*o.nu) o.de));obtain⟨_,_,_,_,⟨l1,l2⟩,_⟩:=h.binv.may o hm;obtain⟨y,hy,y1,y2,y3,y4,y5⟩:=h.like o.se o hfo;refine⟨zQ,hle,ok,⟨o,hfo,h3,k5⟩,?_⟩
 have e:aMs ps tk pt σ o.se k=⟨aC2 ps σ.ls o tk pt k (upN (k*o.nu) o.de),aDv σ.l o.se k,σ.fs++[⟨o.se,k,upN (k*o.nu) o.de⟩],σ.n - k⟩:=by
  unfold aMs;rw[hfo]
 rw[e];refine⟨aMq h.linv _ _ _ _ _,h.binv.take _ _,f1.symm.trans h.lim,fun t x hx=>?_,fun f hf=>?_,?_,fun p c=>?_⟩
 ·obtain⟨z,hz,z1,z2,z3,z4,z5⟩:=aQ2 h.binv hfo zQ k5 hx;obtain⟨v,hv,v1,v2,v3,v4,v5⟩:=h.like t z hz;exact⟨v,hv,v1.trans z1,v2.trans z2,v3.trans z3,v4.trans z4,v5.trans z5⟩
 ·rcases List.mem_append.1 hf with hf|hf
  ·exact h.fs f hf
  rw[List.mem_singleton]at hf;subst hf;exact⟨y,hy,by rw[y2,hsl],by rw[y3,hbu],by rw[y1];exact k1,by rw[y1];exact k2,⟨by show 1≤k;omega,by show k≤1099511627776;omega⟩,f3,f4⟩
 ·have:=h.sum;simp only[List.map_append,List.map_cons,List.map_nil,List.sum_append,List.sum_cons,List.sum_nil];omega
 show posL (aC2 ps σ.ls o tk pt k (upN (k*o.nu) o.de)) p c=_;rw[f2 p c,h.pos p c];simp only[List.map_append,List.map_cons,List.map_nil,List.sum_append,List.sum_cons,List.sum_nil]
 have e2:flBy l0 tk pt ⟨o.se,k,upN (k*o.nu) o.de⟩ p c=aMo o tk pt k (upN (k*o.nu) o.de) p c:=by
  unfold flBy;simp only[hy];unfold aMo;rw[y1,y2,y3]
 rw[e2];omega
theorem aE3.ends{ps:List Int}{ls0:List Ln}{l0:List Of}{N tk pt get give n0:Int}:∀(fuel:Nat) {σ:SwS},aE3 ps ls0 l0 N tk pt get give n0 σ→aE3 ps ls0 l0 N tk pt get give n0 (aB4 ps tk pt get give fuel σ).2
 | fuel,σ,h=>by
  by_cases hn:σ.n≤0
  ·rw[aHp hn];exact h
  cases hf:aAy ps σ.ls σ.l tk pt σ.n 1099511627776 (aC5 σ.l get give)with
  | none=>rw[aHq hn hf];exact h
  | some sk=>
   obtain⟨s,k⟩:=sk
   by_cases hl:σ.fs.length=64
   ·rw[aHr hn hf hl];exact h
   cases fuel with
   | zero=>
    have e:aB4 ps tk pt get give 0 σ=(13,σ):=by
     unfold aB4;rw[if_neg hn,hf];simp only[];rw[if_neg hl]
    rw[e];exact h
   | succ fuel=>rw[aHs hn hf hl];exact aE3.ends fuel (h.step hf).2.2.2.2
theorem aE3.got_nn{ps:List Int}{ls0:List Ln}{l0:List Of}{N tk pt get give n0:Int}{σ:SwS}(h:aE3 ps ls0 l0 N tk pt get give n0 σ):0≤(σ.fs.map Fl.got).sum:=by
 have key:∀l:List Fl,(∀f∈l,1≤f.got)→0≤(l.map Fl.got).sum:=by
  intro l
  induction l with
  | nil=>intro _;simp
  | cons x l ih=>
   intro hx;have a:=hx x List.mem_cons_self;have b:=ih (fun y hy=>hx y (List.mem_cons_of_mem _ hy));rw[List.map_cons,List.sum_cons];omega
 exact key _ (fun f hf=>by obtain⟨o,_,_,_,_,_,a,_⟩:=h.fs f hf;exact a.1)
theorem aE3.given_bd{ps:List Int}{ls0:List Ln}{l0:List Of}{N tk pt get give n0:Int}{σ:SwS}(h:aE3 ps ls0 l0 N tk pt get give n0 σ):0≤(σ.fs.map Fl.gi).sum∧(σ.fs.map Fl.gi).sum≤1099511627776*(σ.fs.length:Int):=by
 have key:∀l:List Fl,(∀f∈l,1≤f.gi∧f.gi≤1099511627776)→0≤(l.map Fl.gi).sum∧(l.map Fl.gi).sum≤1099511627776*(l.length:Int):=by
  intro l
  induction l with
  | nil=>intro _;simp
  | cons x l ih=>
   intro hx;have a:=hx x List.mem_cons_self;have b:=ih (fun y hy=>hx y (List.mem_cons_of_mem _ hy));rw[List.map_cons,List.sum_cons,List.length_cons]
   constructor <;> omega
 exact key _ (fun f hf=>by obtain⟨o,_,_,_,_,_,_,a,b⟩:=h.fs f hf;exact⟨a,b⟩)
def okO(nx:Int)(l:List Of):Prop:=l.Pairwise (fun x y=>x.se<y.se)∧∀x∈l,x.may∧x.se≠0∧x.se<nx
theorem aNv{P:Program}{w w':World}{o:Oper}{a:Act}{K:Act→World→Prop}{Q:Exit→Act→World→Prop}(y x:Operand)(t:TypeId){u v v':Value}
  (ho:o.op=.call { callee:=.builtin .append,args:=#[y,x],argTypes:=#[t,t] })(hy:a.eval y=u)(hx:a.eval x=v)
  (hr:(Builtin.append_ #[t,t] o.type #[u,v]).run P w=.ok v' w')(h:K (a.put o.dst v') w'):o.wp P a w K Q:=by
 unfold Oper.wp execOp;simp only[ho,resolve,invoke,builtin,Sem.run_bind,Sem.run_pure,Result.andThen_ok,List.map_toArray,List.map_cons,List.map_nil,hy,hx,hr];exact h
def aC6(l:List Of)(x:Of):Int:=if ¬x.may then 1 else if l.length=32∨x.se=18446744073709551615 then 9 else 0
def aFt(l:List Of)(x:Of):Int:=if aC6 l x=0 then x.se else 0
def aFf(l:List Of)(x:Of):List Of:=if aC6 l x=0 then l++[x]else l
def aE4(l:List Of)(x:Of):Int:=if aC6 l x=0 then x.se+1 else x.se
def agO(l:List Of)(sl bu nu de:Int):List Of:=(aC5 l bu sl).takeWhile fun x=>decide (cmpR x.nu x.de de nu≤0)
theorem mayB_turn{n d:Int}(h:mayB n d=true):mayB d n=true:=by
 obtain⟨h1,h2,h3,h4,h5⟩:=aE2 h;exact decide_eq_true ⟨h2,h1,h4,h3,by rw[Int.gcd_comm];exact h5⟩
theorem cmp_le{a b n d:Int}(h1:mayB a b=true)(h2:mayB n d=true):cmpR a b d n≤0↔a*n≤d*b:=by
 rw[aLi h1 (mayB_turn h2)];unfold cmpI;split
 ·constructor <;> intro <;> omega
 split
 ·constructor <;> intro <;> omega
 constructor <;> intro <;> omega
theorem mem_ag{l:List Of}{N:Int}(h:BInv l N){sl bu nu de:Int}{o:Of}(ho:o∈agO l sl bu nu de):o∈l∧o.sl=bu∧o.bu=sl∧cmpR o.nu o.de de nu≤0:=by
 have h1:=aF7 ho;obtain⟨a,b,c⟩:=aJg h ((List.takeWhile_sublist _).subset ho);exact⟨a,b,c,zN⟩
theorem rate_more{k a b nu de:Int}(h1:mayB a b=true)(h2:mayB nu de=true)(hc:cmpR a b de nu≤0)(hk:1≤k):(upN (k*a) b - 1)*nu<k*de:=by
 have q:=(cmp_le h1 h2).1 hc;have d1:=aE2 h1;have d2:=aE2 h2
 have hu:(upN (k*a) b - 1)*b<k*a:=by
  have e:=Int.emod_add_mul_ediv (k*a) b;have e0:=Int.emod_nonneg (k*a) (show b≠0 by omega);unfold upN;split
  ·rename_i hz;rw[hz]at e;have:(k*a/b - 1)*b=b*(k*a/b) - b:=by rw[Int.sub_mul,Int.mul_comm,Int.one_mul]
   omega
  rename_i hz;have:(k*a/b+1 - 1)*b=b*(k*a/b):=by rw[Int.add_sub_cancel,Int.mul_comm]
  omega
 have s1:(upN (k*a) b - 1)*b*nu<k*a*nu:=Int.mul_lt_mul_of_pos_right hu zQ;have s2:k*(a*nu)≤k*(de*b):=Int.mul_le_mul_of_nonneg_left q zQ
 have s3:((upN (k*a) b - 1)*nu)*b<(k*de)*b:=by
  have e1:((upN (k*a) b - 1)*nu)*b=(upN (k*a) b - 1)*b*nu:=by rw[Int.mul_right_comm]
  have e2:(k*de)*b=k*(de*b):=by rw[Int.mul_assoc]
  have e3:k*a*nu=k*(a*nu):=by rw[Int.mul_assoc]
  rw[e1,e2];omega
 exact Int.lt_of_mul_lt_mul_right s3 zQ
noncomputable def aTf(ps:List Int)(ow:Int)(σ:SwS)(s k:Int):SwS:=match aBd σ.l s with
 | none=>σ
 | some o=>⟨aC2 ps σ.ls o ow ow k (upN (k*o.nu) o.de),aDv σ.l s k,σ.fs++[⟨s,k,upN (k*o.nu) o.de⟩],σ.n - upN (k*o.nu) o.de⟩
noncomputable def aB2(ps:List Int)(ow sl bu nu de:Int):Nat→SwS→Int×SwS
 | fuel,σ=>if σ.n≤0 then(0,σ)else match aAy ps σ.ls σ.l ow ow 1099511627776 σ.n (agO σ.l sl bu nu de)with
  | none=>(0,σ)
  | some (s,k)=>if σ.fs.length=64 then(13,σ)else match fuel with
   | 0=>(13,σ)
   | f+1=>aB2 ps ow sl bu nu de f (aTf ps ow σ s k)
theorem aIq{ps:List Int}{ow sl bu nu de:Int}{fuel:Nat}{σ:SwS}(h:σ.n≤0):aB2 ps ow sl bu nu de fuel σ=(0,σ):=by
 cases fuel <;> (unfold aB2;rw[if_pos h])
theorem aIr{ps:List Int}{ow sl bu nu de:Int}{fuel:Nat}{σ:SwS}(h:¬σ.n≤0)(hf:aAy ps σ.ls σ.l ow ow 1099511627776 σ.n (agO σ.l sl bu nu de)=none):aB2 ps ow sl bu nu de fuel σ=(0,σ):=by
 cases fuel <;> (unfold aB2;rw[if_neg h,hf])
theorem aF8{ps:List Int}{ow sl bu nu de:Int}{fuel:Nat}{σ:SwS}{s k:Int}(h:¬σ.n≤0)(hf:aAy ps σ.ls σ.l ow ow 1099511627776 σ.n (agO σ.l sl bu nu de)=some (s,k))(hl:σ.fs.length=64):aB2 ps ow sl bu nu de fuel σ=(13,σ):=by
 cases fuel <;> (unfold aB2;rw[if_neg h,hf];simp only[];rw[if_pos hl])
theorem aMt{ps:List Int}{ow sl bu nu de:Int}{σ:SwS}{s k:Int}(h:¬σ.n≤0)(hf:aAy ps σ.ls σ.l ow ow 1099511627776 σ.n (agO σ.l sl bu nu de)=some (s,k)):aB2 ps ow sl bu nu de 0 σ=(13,σ):=by
 by_cases hl:σ.fs.length=64
 ·exact aF8 h hf hl
 unfold aB2;rw[if_neg h,hf];simp only[];rw[if_neg hl]
theorem aIs{ps:List Int}{ow sl bu nu de:Int}{fuel:Nat}{σ:SwS}{s k:Int}(h:¬σ.n≤0)(hf:aAy ps σ.ls σ.l ow ow 1099511627776 σ.n (agO σ.l sl bu nu de)=some (s,k))(hl:¬σ.fs.length=64):aB2 ps ow sl bu nu de (fuel+1) σ=aB2 ps ow sl bu nu de fuel (aTf ps ow σ s k):=by
 conv=>lhs;unfold aB2
 rw[if_neg h,hf];simp only[];rw[if_neg hl]
noncomputable def aHt(N ow sl bu nu de:Int)(r:Int×SwS):Int×SwS×Int×Int:=
 if r.1≠0 then(r.1,r.2,N,0)else if r.2.n≤0 then(0,r.2,N,0)else
  (aC6 r.2.l ⟨N,ow,sl,bu,r.2.n,nu,de⟩,⟨r.2.ls,aFf r.2.l ⟨N,ow,sl,bu,r.2.n,nu,de⟩,r.2.fs,r.2.n⟩,aE4 r.2.l ⟨N,ow,sl,bu,r.2.n,nu,de⟩,aFt r.2.l ⟨N,ow,sl,bu,r.2.n,nu,de⟩)
noncomputable def aB0(ps:List Int)(ls:List Ln)(l:List Of)(N ow sl bu lf nu de:Int):Int×SwS×Int×Int:=
 if ¬(Of.mk 0 ow sl bu lf nu de).may then(1,⟨ls,l,[],lf⟩,N,0)else if ow∉ps then(7,⟨ls,l,[],lf⟩,N,0)else
  aHt N ow sl bu nu de (aB2 ps ow sl bu nu de 64 ⟨ls,l,[],lf⟩)
structure aF9(ps:List Int)(ls0:List Ln)(l0:List Of)(N ow sl bu nu de n0:Int)(σ:SwS):Prop where
 linv:LInv ps σ.ls
 binv:BInv σ.l N
 lim:limL σ.ls=limL ls0
 like:∀s o,aBd σ.l s=some o→∃y,aBd l0 s=some y∧likeO y o
 fs:∀f∈σ.fs,∃o,aBd l0 f.se=some o∧o.sl=bu∧o.bu=sl∧o.ow≠ow∧o.ow∈ps∧cmpR o.nu o.de de nu≤0∧(1≤f.got∧f.got≤1099511627776)∧(1≤f.gi∧f.gi≤1099511627776)∧f.gi=upN (f.got*o.nu) o.de∧mayB o.nu o.de=true
 sum:(σ.fs.map Fl.gi).sum+σ.n=n0
 nn:0≤σ.n
 len:σ.fs.length≤64
 pos:∀p c,posL σ.ls p c=posL ls0 p c+(σ.fs.map fun f=>flBy l0 ow ow f p c).sum
theorem aF9.start{ps:List Int}{ls0:List Ln}{l0:List Of}{N ow sl bu nu de n0:Int}(hI:LInv ps ls0)(hJ:BInv l0 N)(hn:0≤n0):aF9 ps ls0 l0 N ow sl bu nu de n0 ⟨ls0,l0,[],n0⟩:=
 ⟨hI,hJ,rfl,fun s o h=>⟨o,h,rfl,rfl,rfl,rfl,rfl⟩,fun f hf=>(by cases hf),zV,hn,zV,fun p c=>zV⟩
theorem aF9.step{ps:List Int}{ls0:List Ln}{l0:List Of}{N ow sl bu nu de n0:Int}{σ:SwS}(h:aF9 ps ls0 l0 N ow sl bu nu de n0 σ){s k:Int}(hf:aAy ps σ.ls σ.l ow ow 1099511627776 σ.n (agO σ.l sl bu nu de)=some (s,k)):
  1≤k∧k≤1099511627776∧okS ps σ.ls σ.l ow ow k s∧∃o,aBd σ.l s=some o∧o∈agO σ.l sl bu nu de∧k≤o.lf∧1≤upN (k*o.nu) o.de∧upN (k*o.nu) o.de≤σ.n∧
   aTf ps ow σ s k=⟨aC2 ps σ.ls o ow ow k (upN (k*o.nu) o.de),aDv σ.l s k,σ.fs++[⟨s,k,upN (k*o.nu) o.de⟩],σ.n - upN (k*o.nu) o.de⟩∧
   (¬σ.fs.length=64→aF9 ps ls0 l0 N ow sl bu nu de n0 (aTf ps ow σ s k)):=by
 obtain⟨h1,h2,o,h3,rfl⟩:=aIp hf;obtain⟨hm,hsl,hbu,hcm⟩:=mem_ag h.binv h3;have hfo:=aJ8 h.binv hm;obtain⟨ok,hle⟩:=may_okS h.linv h2 zQ;have hG:=goesS h.linv o ow ow;have hG':∀o',aBd σ.l o.se=some o'→Goes ps σ.ls o' ow ow (aJf ps σ.ls o.sl o.ow ow) (aJf ps σ.ls o.bu ow o.ow):=fun o' ho'=>by rw[hfo]at ho';cases ho';exact hG
 have hd:=(aMr h.linv hG').2 ok;obtain⟨o',ho',⟨k1,k2,k3,k4⟩,k5,_,_⟩:=hd.facts;rw[hfo]at ho'
 cases ho'
 obtain⟨f1,f2,f3,f4,f5⟩:=aKt h.linv h.binv hfo hG hd rfl (aHo h.linv o ow ow k (upN (k*o.nu) o.de));obtain⟨_,_,_,_,⟨l1,l2⟩,hmr⟩:=h.binv.may o hm;obtain⟨y,hy,y1,y2,y3,y4,y5⟩:=h.like o.se o hfo
 -- what is given is no more than what is left
 have hb1:=mostS_bd h.linv o.sl o.ow ow;have hb2:=mostS_bd h.linv o.bu ow o.ow;have hmd:=may_do hb1.1 hb2.1 (by rw[aPf h.linv hG'];exact h2.symm) (show 1≤k by omega);obtain⟨_,_,hn1,o2,ho2,hfit⟩:=hmd;rw[hfo]at ho2
 cases ho2
 have hup:=(aTd hmr (g:=min (min σ.n 1099511627776) (aJf ps σ.ls o.bu ow o.ow)) zQ zQ (show 0≤k by omega) hfit).2.2
 have e:aTf ps ow σ o.se k=⟨aC2 ps σ.ls o ow ow k (upN (k*o.nu) o.de),aDv σ.l o.se k,σ.fs++[⟨o.se,k,upN (k*o.nu) o.de⟩],σ.n - upN (k*o.nu) o.de⟩:=by
  unfold aTf;rw[hfo]
 refine⟨zQ,hle,ok,o,hfo,h3,k5,f3,zQ,e,fun hl=>?_⟩;rw[e];refine⟨aMq h.linv _ _ _ _ _,h.binv.take _ _,f1.symm.trans h.lim,fun t x hx=>?_,fun f hf=>?_,?_,?_,?_,fun p c=>?_⟩
 ·obtain⟨z,hz,z1,z2,z3,z4,z5⟩:=aQ2 h.binv hfo zQ k5 hx;obtain⟨v,hv,v1,v2,v3,v4,v5⟩:=h.like t z hz;exact⟨v,hv,v1.trans z1,v2.trans z2,v3.trans z3,v4.trans z4,v5.trans z5⟩
 ·rcases List.mem_append.1 hf with hf|hf
  ·exact h.fs f hf
  rw[List.mem_singleton]at hf;subst hf;exact⟨y,hy,by rw[y2,hsl],by rw[y3,hbu],by rw[y1];exact k1,by rw[y1];exact k2,by rw[y4,y5];exact hcm,⟨by show 1≤k;omega,by show k≤1099511627776;omega⟩,⟨f3,f4⟩,by rw[y4,y5],by rw[y4,y5];exact hmr⟩
 ·have:=h.sum;simp only[List.map_append,List.map_cons,List.map_nil,List.sum_append,List.sum_cons,List.sum_nil];omega
 ·show 0≤σ.n - upN (k*o.nu) o.de;omega
 ·have:=h.len;rw[List.length_append,List.length_singleton];omega
 show posL (aC2 ps σ.ls o ow ow k (upN (k*o.nu) o.de)) p c=_;rw[f2 p c,h.pos p c];simp only[List.map_append,List.map_cons,List.map_nil,List.sum_append,List.sum_cons,List.sum_nil]
 have e2:flBy l0 ow ow ⟨o.se,k,upN (k*o.nu) o.de⟩ p c=aMo o ow ow k (upN (k*o.nu) o.de) p c:=by
  unfold flBy;simp only[hy];unfold aMo;rw[y1,y2,y3]
 rw[e2];omega
theorem aOf{ps:List Int}{ow sl bu nu de:Int}(C:SwS→Prop)(hs:∀σ s k,C σ→¬σ.n≤0→aAy ps σ.ls σ.l ow ow 1099511627776 σ.n (agO σ.l sl bu nu de)=some (s,k)→¬σ.fs.length=64→C (aTf ps ow σ s k)):∀(fuel:Nat) {σ:SwS},C σ→C (aB2 ps ow sl bu nu de fuel σ).2
 | fuel,σ,h=>by
  by_cases hn:σ.n≤0
  ·rw[aIq hn];exact h
  cases hf:aAy ps σ.ls σ.l ow ow 1099511627776 σ.n (agO σ.l sl bu nu de)with
  | none=>rw[aIr hn hf];exact h
  | some sk=>
   obtain⟨s,k⟩:=sk
   by_cases hl:σ.fs.length=64
   ·rw[aF8 hn hf hl];exact h
   cases fuel with
   | zero=>rw[aMt hn hf];exact h
   | succ fuel=>rw[aIs hn hf hl];exact aOf C hs fuel (hs σ s k h hn hf hl)
theorem aF9.ends{ps:List Int}{ls0:List Ln}{l0:List Of}{N ow sl bu nu de n0:Int}(fuel:Nat){σ:SwS}(h:aF9 ps ls0 l0 N ow sl bu nu de n0 σ):aF9 ps ls0 l0 N ow sl bu nu de n0 (aB2 ps ow sl bu nu de fuel σ).2:=by
 refine aOf (fun σ=>aF9 ps ls0 l0 N ow sl bu nu de n0 σ) (fun σ s k hc hn hf hl=>?_) fuel h;obtain⟨_,_,_,_,_,_,_,_,_,_,q⟩:=hc.step hf;exact q hl
theorem aQ3{ps:List Int}{ow sl bu nu de:Int}:∀(fuel:Nat) {σ σ':SwS},aB2 ps ow sl bu nu de fuel σ=(0,σ')→σ'.n≤0∨aAy ps σ'.ls σ'.l ow ow 1099511627776 σ'.n (agO σ'.l sl bu nu de)=none
 | fuel,σ,σ',h=>by
  by_cases hn:σ.n≤0
  ·rw[aIq hn]at h;obtain rfl:=(Prod.mk.inj h).2;exact .inl hn
  cases hf:aAy ps σ.ls σ.l ow ow 1099511627776 σ.n (agO σ.l sl bu nu de)with
  | none=>
   rw[aIr hn hf]at h;obtain rfl:=(Prod.mk.inj h).2;exact .inr hf
  | some sk=>
   obtain⟨s,k⟩:=sk
   by_cases hl:σ.fs.length=64
   ·rw[aF8 hn hf hl]at h;exact absurd (Prod.mk.inj h).1 zX
   cases fuel with
   | zero=>rw[aMt hn hf]at h;exact absurd (Prod.mk.inj h).1 zX
   | succ fuel=>rw[aIs hn hf hl]at h;exact aQ3 fuel h
theorem aF9.gi_nn{ps:List Int}{ls0:List Ln}{l0:List Of}{N ow sl bu nu de n0:Int}{σ:SwS}(h:aF9 ps ls0 l0 N ow sl bu nu de n0 σ):0≤(σ.fs.map Fl.gi).sum:=by
 have key:∀l:List Fl,(∀f∈l,1≤f.gi)→0≤(l.map Fl.gi).sum:=by
  intro l
  induction l with
  | nil=>intro _;simp
  | cons x l ih=>
   intro hx;have a:=hx x List.mem_cons_self;have b:=ih (fun y hy=>hx y (List.mem_cons_of_mem _ hy));rw[List.map_cons,List.sum_cons];omega
 exact key _ (fun f hf=>by obtain⟨o,_,_,_,_,_,_,_,a,_⟩:=h.fs f hf;exact a.1)
structure aQ4(ps:List Int)(ls:List Ln)(l:List Of)(N ow sl bu lf nu de:Int)(σ:SwS)(N' sq:Int)(τ:SwS):Prop where
 may:(Of.mk 0 ow sl bu lf nu de).may
 part:ow∈ps
 inv:aF9 ps ls l N ow sl bu nu de lf τ
 is:aB2 ps ow sl bu nu de 64 ⟨ls,l,[],lf⟩=(0,τ)
 ends:(τ.n=0∧σ=τ∧N'=N∧sq=0)∨(1≤τ.n∧aAy ps τ.ls τ.l ow ow 1099511627776 τ.n (agO τ.l sl bu nu de)=none∧aC6 τ.l ⟨N,ow,sl,bu,τ.n,nu,de⟩=0∧σ=⟨τ.ls,τ.l++[⟨N,ow,sl,bu,τ.n,nu,de⟩],τ.fs,τ.n⟩∧N'=N+1∧sq=N)
theorem aMu{ps:List Int}{ls:List Ln}{l:List Of}{N ow sl bu lf nu de:Int}{σ:SwS}{N' sq:Int}(hI:LInv ps ls)(hJ:BInv l N)(h:aB0 ps ls l N ow sl bu lf nu de=(0,σ,N',sq)):∃τ,aQ4 ps ls l N ow sl bu lf nu de σ N' sq τ:=by
 unfold aB0 at h
 by_cases hm:(Of.mk 0 ow sl bu lf nu de).may
 ·rw[if_neg (fun q=>q hm)]at h
  by_cases hp:ow∉ps
  ·rw[if_pos hp]at h;exact absurd (congrArg Prod.fst h) (by show ¬(7:Int)=0;decide)
  rw[if_neg hp]at h;obtain⟨r,hr⟩:∃r,aB2 ps ow sl bu nu de 64 ⟨ls,l,[],lf⟩=r:=⟨_,rfl⟩;obtain⟨e,τ⟩:=r;have hinv:=aF9.ends (ow:=ow) (sl:=sl) (bu:=bu) (nu:=nu) (de:=de) 64 (aF9.start hI hJ (ow:=ow) (sl:=sl) (bu:=bu) (nu:=nu) (de:=de) (n0:=lf) (by have:=hm.2.2.2.2.1.1;show 0≤lf;exact Int.le_trans zX this));rw[hr]at h hinv;unfold aHt at h
  by_cases he:e=0
  ·subst he;rw[if_neg zV]at h;refine⟨τ,hm,Decidable.not_not.1 hp,hinv,hr,?_⟩;have hnn:=hinv.nn
   by_cases hz:τ.n≤0
   ·rw[if_pos hz]at h;obtain⟨_,h2⟩:=Prod.mk.inj h;obtain⟨h3,h4⟩:=Prod.mk.inj h2;obtain⟨h5,h6⟩:=Prod.mk.inj h4;exact .inl ⟨by show τ.n=0;have q:0≤τ.n:=hnn;omega,h3.symm,h5.symm,h6.symm⟩
   rw[if_neg hz]at h;obtain⟨h1,h2⟩:=Prod.mk.inj h;obtain⟨h3,h4⟩:=Prod.mk.inj h2;obtain⟨h5,h6⟩:=Prod.mk.inj h4;have h1':aC6 τ.l ⟨N,ow,sl,bu,τ.n,nu,de⟩=0:=h1;rcases aQ3 64 hr with q|q
   ·exact absurd q hz
   refine .inr ⟨zQ,q,h1',?_,?_,?_⟩
   ·rw[←h3];show _=_;simp only[aFf,h1',if_true]
   ·rw[←h5];show aE4 τ.l _=_;unfold aE4;rw[if_pos h1']
   rw[←h6];show aFt τ.l _=_;unfold aFt;rw[if_pos h1']
  rw[if_pos x5]at h;exact absurd (congrArg Prod.fst h) x5
 rw[if_pos hm]at h;exact absurd (congrArg Prod.fst h) (by show ¬(1:Int)=0;decide)
theorem aQ4.rate{ps:List Int}{ls:List Ln}{l:List Of}{N ow sl bu lf nu de:Int}{σ:SwS}{N' sq:Int}{τ:SwS}(h:aQ4 ps ls l N ow sl bu lf nu de σ N' sq τ){f:Fl}(hf:f∈τ.fs):(f.gi - 1)*nu<f.got*de:=by
 obtain⟨o,_,_,_,_,_,hc,⟨g1,_⟩,_,e,hm⟩:=h.inv.fs f hf;rw[e];exact rate_more hm h.may.2.2.2.2.2 hc g1
end Go.Proofs.YtngnfdnfpiiclaaGreat
