/- Pieces of one proof. -/
import Derived.Test.YtaeocliklpcgmaaGreatB12
import Derived.Lib.Mul64
import Derived.Laws.Externs
import Derived.Laws.Bits64b
import Derived.Deep.CutBlock
import Derived.Lib.Strings
import Derived.Lib.Small
import Derived.Lib.BitFns
import Derived.Lib.Slices
import Derived.Lib.Walk
import Derived.Lib.ItoaNum
import Derived.Deep.RegionWith
set_option linter.all false
set_option maxHeartbeats 64000000
set_option maxRecDepth 100000
namespace Go.Proofs.YtaeocliklpcgmaaGreat
open Go.RowKit Go.Lib
theorem aMe(x y c:Int)(hx:0≤x)(hy:0≤y)(hc0:0≤c)(hc:c≤1)(w:World):
  (callFunc 174 #[.int .u64 x,.int .u64 y,.int .u64 c]).run Tryz.prog w=
   .ok (.value (.tuple #[.int .u64 ((x+y+c)%18446744073709551616),.int .u64 ((x+y+c)/18446744073709551616)])) w:=by
 rw[run_callFunc_extern Tryz.func174 (by kernel_rfl) (by kernel_rfl) (by kernel_rfl) (e:=add64Entry) (by kernel_rfl),run_add64 x y c hx hy hc0 hc];rfl
def sub64Way:Array Value→Sem Value:=fun args=>do
 let (x, y, b) ← Extern.MathBitsCarry.three "Sub64" args
 pure (Extern.MathBitsCarry.pair ((x+Extern.MathBitsCarry.m64 - y - b)%Extern.MathBitsCarry.m64) (if x<y+b then 1 else 0))
theorem aMf{P:Program}(x y b:Nat)(hb:b≤1)(w:World):
  (sub64Way #[.int .u64 x,.int .u64 y,.int .u64 b]).run P w=
   .ok (.tuple #[.int .u64 (((x+18446744073709551616 - y - b)%18446744073709551616:Nat):Int),.int .u64 ((if x<y+b then 1 else 0:Nat):Int)]) w:=by
 have:b=0∨b=1:=by omega
 rcases this with rfl|rfl <;> rfl
theorem aMg(x y b:Int)(hx:aCi x)(hy:aCi y)(hb0:0≤b)(hb:b≤1)(w:World):
  (callFunc 137 #[.int .u64 x,.int .u64 y,.int .u64 b]).run Tryz.prog w=
   .ok (.value (.tuple #[.int .u64 ((x - y - b)%18446744073709551616),.int .u64 (if x<y+b then 1 else 0)])) w:=by
 unfold aCi at hx hy;obtain⟨X,rfl⟩:=Int.eq_ofNat_of_zero_le hx.1;obtain⟨Y,rfl⟩:=Int.eq_ofNat_of_zero_le hy.1;obtain⟨B,rfl⟩:=Int.eq_ofNat_of_zero_le hb0;rw[run_callFunc_extern Tryz.func137 (by kernel_rfl) (by kernel_rfl) (by kernel_rfl) (e:=sub64Way) (by kernel_rfl),aMf X Y B (by omega)];have e1:(((X+18446744073709551616 - Y - B)%18446744073709551616:Nat):Int)=((X:Int) - Y - B)%18446744073709551616:=by omega
 have e2:((if X<Y+B then 1 else 0:Nat):Int)=if(X:Int)<(Y:Int)+(B:Int)then 1 else 0:=by split <;> split <;> omega
 rw[e1,e2];rfl
theorem maskN(a:Nat)(ha:a<18446744073709551616):bits .and .u64 (a:Int) 4294967295=((a%4294967296:Nat):Int):=by
 have h:=bits_and_u64_nat a 4294967295 ha (by omega);have e:a &&& 4294967295=a%4294967296:=Nat.and_two_pow_sub_one_eq_mod a 32;rw[e]at h;exact h
theorem divN(a:Nat):(a:Int)/4294967296=((a/4294967296:Nat):Int):=by omega
theorem mulN(a b:Nat):(a:Int)*(b:Int)=((a*b:Nat):Int):=(Int.natCast_mul a b).symm
theorem addN(a b:Nat):(a:Int)+(b:Int)=((a+b:Nat):Int):=(Int.natCast_add a b).symm
theorem aMh(a:Nat)(ha:a<18446744073709551616):IntKind.u64.wrap (a:Int)=(a:Int):=by rw[aAy];omega
theorem wrapM(a:Nat):IntKind.u64.wrap (a:Int)=((a%18446744073709551616:Nat):Int):=by rw[aAy];omega
theorem mul64_nat(x y:Nat)(hx:x<18446744073709551616)(hy:y<18446744073709551616)(w:World):
  Calls Tryz.prog 25 #[.int .u64 x,.int .u64 y] w fun e w'=>
   e=.returned (.tuple #[.int .u64 ((x*y/18446744073709551616:Nat):Int),.int .u64 ((x*y%18446744073709551616:Nat):Int)])∧w=w':=by
 obtain⟨bd,bt,bw,hhi⟩:=Lib.mul64_hi x y hx hy;have ba:=Lib.half_mul_le (a:=x/4294967296) (b:=y/4294967296) (by omega) (by omega);have bb:=Lib.half_mul_le (a:=x/4294967296) (b:=y%4294967296) (by omega) (by omega);have bc:=Lib.half_mul_le (a:=x%4294967296) (b:=y/4294967296) (by omega) (by omega);have ba':x/4294967296*(y/4294967296)<18446744073709551616:=by omega
 have bb':x/4294967296*(y%4294967296)<18446744073709551616:=by omega
 have bc':x%4294967296*(y/4294967296)<18446744073709551616:=by omega
 have hmul:x*y/18446744073709551616<18446744073709551616:=by
  have:=Nat.mul_lt_mul'' hx hy;omega
 generalize ht:x/4294967296*(y%4294967296)+x%4294967296*(y%4294967296)/4294967296=t at *;have Ht:=yH ht;clear ht;have Hhi:=yH hhi;clear hhi;go_enter Tryz.func25,Tryz.ntmps25;go_wp2;simp only[maskN x hx,maskN y hy,divN,mulN,addN,aMh _ bd,aMh _ bb',Ht.out,aMh _ bt,maskN _ bt,aMh _ bc',aMh _ bw,aMh _ ba'];rw[aMh _ (show x/4294967296*(y/4294967296)+t/4294967296<18446744073709551616 by have:=Hhi.out;omega),addN,aMh _ (by have:=Hhi.out;omega),Hhi.out,wrapM];go_ret2;exact⟨rfl,rfl⟩
theorem aDs(x y:Int)(w:World)(hx:aCi x)(hy:aCi y):
  Calls Tryz.prog 25 #[.int .u64 x,.int .u64 y] w fun e w'=>
   e=.returned (.tuple #[.int .u64 (x*y/18446744073709551616),.int .u64 (x*y%18446744073709551616)])∧w=w':=by
 unfold aCi at hx hy;obtain⟨X,rfl⟩:=Int.eq_ofNat_of_zero_le hx.1;obtain⟨Y,rfl⟩:=Int.eq_ofNat_of_zero_le hy.1;exact mul64_nat X Y (by omega) (by omega) w
end Go.Proofs.YtaeocliklpcgmaaGreat
namespace Go.Proofs.YtaeocliklpcgmaaGreat
open Go.RowKit
def LenOf(x n:Nat):Prop:=x<2 ^ n∧(x=0∨2 ^ n≤2*x)
theorem len8_get(j:Int)(h0:0≤j)(h1:j<256)(hp:j.toNat<Lib.len8tab.size):(Lib.len8tab[j.toNat].toNat:Int)=Lib.bitLen j.toNat:=by
 rw[←Lib.len8_of j h0 (by omega),Lib.len8,getElem?_pos Lib.len8tab j.toNat hp];rfl
theorem aDt(x j:Int)(k:Nat)(h0:0≤x)(h1:x≤18446744073709551615)(hj0:0≤j)(hj1:j<256)(hj:j.toNat=x.toNat/2 ^ k)(hk:2 ^ k≤x.toNat)(hp:j.toNat<Lib.len8tab.size):
  wrap64 (k+wrap64 (Lib.len8tab[j.toNat].toNat:Int))=Lib.bitLen x.toNat:=by
 have h8:=Lib.bitLen_le8' j hj0 (by omega);have hs:=Lib.bitLen_shift k x.toNat hk (by omega)
 have hk64:k<64:=by
  rcases Nat.lt_or_ge k 64 with h|h
  ·exact h
  have:=Nat.pow_le_pow_right (n:=2) (by omega) h;omega
 rw[len8_get j hj0 hj1 hp,hs,←hj,aCj (Lib.bitLen j.toNat) (by unfold In64;omega),aCj _ (by unfold In64;omega)];omega
theorem len_close0(x:Int)(h0:0≤x)(h1:x<256)(hp:x.toNat<Lib.len8tab.size):
  wrap64 (wrap64 (Lib.len8tab[x.toNat].toNat:Int))=Lib.bitLen x.toNat:=by
 have h8:=Lib.bitLen_le8' x h0 (by omega);rw[len8_get x h0 h1 hp,aCj (Lib.bitLen x.toNat) (by unfold In64;omega),aCj _ (by unfold In64;omega)]
theorem aHm(x:Nat)(h:x<2 ^ 64)(h0:0<x):1≤Lib.bitLen x∧Lib.bitLen x≤64∧LenOf x (Lib.bitLen x):=by
 obtain⟨h1,h2,h3⟩:=Lib.bitLenAux_bounds 64 x h (by omega);have h4:=Lib.bitLen_le x 64 (by omega) h;unfold Lib.bitLen at *;refine⟨h1,h4,h3,.inr ?_⟩;obtain⟨n,hn⟩:∃n,Lib.bitLenAux 64 x=n+1:=⟨Lib.bitLenAux 64 x - 1,by omega⟩;rw[hn]at h2 ⊢;rw[Nat.pow_succ];simp only[Nat.add_sub_cancel]at h2;omega
theorem len64_any(x:Int)(w:World)(h0:0≤x)(h1:x≤18446744073709551615):
  Calls Tryz.prog 170 #[.int .u64 x] w (yS w (.int .i64 (Lib.bitLen x.toNat))):=by
 have hsz:(Lib.len8tab.size:Int)=256:=by rw[Lib.len8tab_size];rfl
 go_enter Tryz.func170,Tryz.ntmps170;go_wp2;all_goals (go_ret;refine⟨congrArg Ending.returned (congrArg (Value.int IntKind.i64) ?_),rfl⟩)
 ·exact aDt x _ 56 h0 h1 (by omega) (by omega) (by omega) (by omega) _
 ·exact aDt x _ 48 h0 h1 (by omega) (by omega) (by omega) (by omega) _
 ·exact aDt x _ 40 h0 h1 (by omega) (by omega) (by omega) (by omega) _
 ·exact aDt x _ 32 h0 h1 (by omega) (by omega) (by omega) (by omega) _
 ·exact aDt x _ 24 h0 h1 (by omega) (by omega) (by omega) (by omega) _
 ·exact aDt x _ 16 h0 h1 (by omega) (by omega) (by omega) (by omega) _
 ·exact aDt x _ 8 h0 h1 (by omega) (by omega) (by omega) (by omega) _
 exact len_close0 x h0 (by omega) _
theorem lz64_any(x:Int)(w:World)(h0:0<x)(h1:x≤18446744073709551615):
  Calls Tryz.prog 232 #[.int .u64 x] w (yS w (.int .i64 (64 - (Lib.bitLen x.toNat:Int)))):=by
 have hb:=(aHm x.toNat (by omega) (by omega)).2.1;go_enter Tryz.func232,Tryz.ntmps232;go_wp2_with fail;refine(len64_any x _ (by omega) h1).mono ?_;rintro e w' ⟨rfl,rfl⟩;go_wp2;go_ret;exact⟨rfl,rfl⟩
structure aFa(Y yn1 yn0 u d q r:Nat):Prop where
 le:(u*4294967296+d)/Y≤q
 hi:q≤4294967297
 rem:q*yn1+r=u
 small:r<4294967296
structure aHn(Y yn1 yn0 u d:Nat):Prop where
 y:Y=yn1*4294967296+yn0
 y1:2147483648≤yn1
 y1':yn1<4294967296
 y0:yn0<4294967296
 u:u<Y
 d:d<4294967296
theorem aFa.start{Y yn1 yn0 u d:Nat}(D:aHn Y yn1 yn0 u d):aFa Y yn1 yn0 u d (u/yn1) (u%yn1):=by
 obtain⟨hy,h1,h1',h0,hu,hd⟩:=D;have e1:(u*4294967296+d)/Y≤(u*4294967296+d)/(4294967296*yn1):=Nat.div_le_div_left (by omega) (by omega);have e2:(u*4294967296+d)/(4294967296*yn1)=u/yn1:=by rw[←Nat.div_div_eq_div_mul];congr 1;omega
 refine⟨by omega,?_,by rw[Nat.mul_comm];exact Nat.div_add_mod u yn1,by have:=Nat.mod_lt u (show 0<yn1 by omega);omega⟩;have:u/yn1<4294967298:=by rw[Nat.div_lt_iff_lt_mul (by omega)];omega
 omega
theorem aFa.mulY{Y yn1 yn0 u d q r:Nat}(D:aHn Y yn1 yn0 u d)(G:aFa Y yn1 yn0 u d q r):q*Y+r*4294967296=u*4294967296+q*yn0:=by
 have h:=G.rem;rw[D.y,Nat.mul_add,←Nat.mul_assoc,←h];generalize q*yn1=a;omega
theorem aFa.done{Y yn1 yn0 u d q r:Nat}(D:aHn Y yn1 yn0 u d)(G:aFa Y yn1 yn0 u d q r)(h:q*yn0≤4294967296*r+d):q=(u*4294967296+d)/Y:=by
 have h1:=G.mulY D;have h2:q≤(u*4294967296+d)/Y:=by rw[Nat.le_div_iff_mul_le (by have:=D.u;omega)];omega
 have:=G.le;omega
theorem aN3{Y yn1 yn0 u d:Nat}(D:aHn Y yn1 yn0 u d):(u*4294967296+d)/Y<4294967296:=by
 obtain⟨hy,h1,h1',h0,hu,hd⟩:=D;rw[Nat.div_lt_iff_lt_mul (by omega)];omega
theorem aFa.step{Y yn1 yn0 u d q r:Nat}(D:aHn Y yn1 yn0 u d)(G:aFa Y yn1 yn0 u d q r)(h:4294967296≤q∨4294967296*r+d<q*yn0):
  1≤q∧(u*4294967296+d)/Y≤q - 1∧(q - 1)*yn1+(r+yn1)=u∧q - 1≤4294967296:=by
 have h1:=G.mulY D;have hl:=aN3 D
 have hq:1≤q:=by
  rcases Nat.eq_zero_or_pos q with rfl|h0
  ·rcases h with h|h
   ·omega
   simp at h
  exact h0
 have hlt:(u*4294967296+d)/Y<q:=by
  rcases h with h|h
  ·omega
  rw[Nat.div_lt_iff_lt_mul (by have:=D.u;omega)];omega
 have hr:=G.rem;obtain⟨p,rfl⟩:∃p,q=p+1:=⟨q - 1,by omega⟩;simp only[Nat.add_sub_cancel];rw[Nat.add_mul]at hr;exact⟨hq,by omega,by omega,by have:=G.hi;omega⟩
theorem pAM{Y yn1 yn0 u d q r:Nat}(D:aHn Y yn1 yn0 u d)(h1:(u*4294967296+d)/Y≤q)(h2:q*yn1+r=u)(h3:q≤4294967296)(h4:4294967296≤r):q=(u*4294967296+d)/Y:=by
 have h0:=D.y0
 have h5:q*Y+r*4294967296=u*4294967296+q*yn0:=by
  rw[D.y,Nat.mul_add,←Nat.mul_assoc,←h2];generalize q*yn1=a;omega
 have h6:q*yn0≤4294967296*4294967295:=Nat.mul_le_mul h3 (by omega);have h7:q≤(u*4294967296+d)/Y:=by rw[Nat.le_div_iff_mul_le (by have:=D.u;omega)];omega
 omega
def GuessAt(Y yn1 yn0 u d:Nat)(a b:Value):Prop:=∃q r:Nat,a=.int .u64 q∧b=.int .u64 r∧aFa Y yn1 yn0 u d q r
theorem aN4{u n:Nat}(hu:u<18446744073709551616)(hn:0<n):IntKind.u64.wrap ((u:Int)/(n:Int))=((u/n:Nat):Int):=by
 have:u/n≤u:=Nat.div_le_self u n;rw[←Int.natCast_ediv,aAy];generalize u/n=k at *;omega
theorem guess_r{u n:Nat}(hu:u<18446744073709551616):IntKind.u64.wrap ((u:Int) - IntKind.u64.wrap (((u/n:Nat):Int)*(n:Int)))=((u%n:Nat):Int):=by
 have h:=Nat.div_add_mod u n;rw[Nat.mul_comm]at h;rw[←Int.natCast_mul,aAy,aAy];generalize u/n*n=p at *;omega
theorem aMi{a b:Nat}(ha:a<4294967296)(hb:b<4294967296):IntKind.u64.wrap ((a:Int)*(b:Int))=((a*b:Nat):Int):=by
 have h:a*b≤4294967295*4294967295:=Nat.mul_le_mul (by omega) (by omega);rw[←Int.natCast_mul,aAy];generalize a*b=p at *;omega
theorem div_rest{u d Y:Nat}(hY:0<Y∧Y<18446744073709551616)(hd:d<4294967296):
  IntKind.u64.wrap (IntKind.u64.wrap (IntKind.u64.wrap ((u:Int)*4294967296)+(d:Int)) - IntKind.u64.wrap ((((u*4294967296+d)/Y:Nat):Int)*(Y:Int)))=(((u*4294967296+d)%Y:Nat):Int):=by
 have h:=Nat.div_add_mod (u*4294967296+d) Y;have hm:=Nat.mod_lt (u*4294967296+d) hY.1;rw[Nat.mul_comm Y]at h;rw[←Int.natCast_mul];simp only[aAy];generalize (u*4294967296+d)/Y*Y=p at *;generalize (u*4294967296+d)%Y=m at *;omega
theorem aN5(hi lo y:Nat)(w:World)(hh:0<hi)(hy:hi<y)(hy2:y<18446744073709551616)(hlo:lo<18446744073709551616)
  (s Y yn1 yn0 u L d1 d0:Nat)(hs':Hid (64 - (Lib.bitLen y:Int)=s))(hs2:s≤63)
  (r1:IntKind.u64.wrap ((y:Int)*2 ^ s)=(Y:Int))(r2:(Y:Int)/4294967296=(yn1:Int))(r3:bits .and .u64 (Y:Int) 4294967295=(yn0:Int))
  (r4:bits .or .u64 (IntKind.u64.wrap ((hi:Int)*2 ^ s)) ((lo:Int)/2 ^ (64 - s))=(u:Int))(r5:IntKind.u64.wrap ((lo:Int)*2 ^ s)=(L:Int))
  (r6:(L:Int)/4294967296=(d1:Int))(r7:bits .and .u64 (L:Int) 4294967295=(d0:Int))
  (D1:Hid (aHn Y yn1 yn0 u d1))(D0:Hid (∀u',u'<Y→aHn Y yn1 yn0 u' d0))
  (hY:Y<18446744073709551616)(hY0:9223372036854775808≤Y)(hu:u<Y)(hyn1:2147483648≤yn1)(hyn1':yn1<4294967296)(hyn0:yn0<4294967296)(hd1:d1<4294967296)(hd0:d0<4294967296):
  Calls Tryz.prog 222 #[.int .u64 hi,.int .u64 lo,.int .u64 y] w fun e w'=>
   e=.returned (.tuple #[.int .u64 ((((u*4294967296+d1)/Y:Nat):Int)*4294967296+((((u*4294967296+d1)%Y*4294967296+d0)/Y:Nat):Int)),.int .u64 (((((u*4294967296+d1)%Y*4294967296+d0)%Y:Nat):Int)/2 ^ s)])∧w=w':=by
 go_enter Tryz.func222,Tryz.ntmps222;go_wp2_with fail;refine(lz64_any y _ (by omega) (by omega)).mono ?_;rw[Int.toNat_natCast,hs'.out];rintro e w' ⟨rfl,rfl⟩;have e15:IntKind.u64.wrap ((u:Int)/(yn1:Int))=((u/yn1:Nat):Int):=aN4 (by omega) (by omega);have e16:IntKind.u64.wrap ((u:Int) - IntKind.u64.wrap (((u/yn1:Nat):Int)*(yn1:Int)))=((u%yn1:Nat):Int):=guess_r (by omega);have G0:=yH (aFa.start D1.out);generalize u/yn1=q0 at e15 e16 G0;generalize u%yn1=r0 at e16 G0
 go_upto_block 0 with fail
 go_cut [15,16] (fun a _ w'=>a=.int .u64 (((u*4294967296+d1)/Y:Nat):Int)∧w=w')
 case first=>
  go_wp2_with fail
  go_loop [15,16] (GuessAt Y yn1 yn0 u d1) (fun a _=>(intOf a).toNat)
  case atStart=>exact⟨q0,r0,rfl,rfl,G0.out⟩
  obtain⟨q,r,rfl,rfl,G⟩:=hrel;have h1:=G.hi;have h2:=G.small;have hg:=yH G;clear G
  by_cases hq:(4294967296:Int)≤(q:Int)
  ·have st:=yH (aFa.step D1.out hg.out (.inl (by omega)));have h1q:(1:Int)≤q:=by have:=st.out.1;omega
   by_cases hr:(4294967296:Int)≤(r:Int)+(yn1:Int)
   ·go_wp2
    go_meet
    case rel=>exact⟨by rw[←pAM D1.out st.out.2.1 st.out.2.2.1 st.out.2.2.2 (by omega)];congr 1;omega,rfl⟩
   go_wp2
   go_round
   case rel=>exact⟨q - 1,r+yn1,by congr 1;omega,by congr 1,⟨st.out.2.1,by omega,st.out.2.2.1,by omega⟩⟩
   case measure=>simp[intOf];omega
  have n1:IntKind.u64.wrap ((q:Int)*(yn0:Int))=((q*yn0:Nat):Int):=aMi (by omega) hyn0
  by_cases ht:4294967296*r+d1<q*yn0
  ·have st:=yH (aFa.step D1.out hg.out (.inr ht));have h1q:(1:Int)≤q:=by have:=st.out.1;omega
   have ht':4294967296*(r:Int)+(d1:Int)<((q*yn0:Nat):Int):=by omega
   clear ht;generalize q*yn0=p at *
   by_cases hr:(4294967296:Int)≤(r:Int)+(yn1:Int)
   ·go_wp2
    go_meet
    case rel=>exact⟨by rw[←pAM D1.out st.out.2.1 st.out.2.2.1 st.out.2.2.2 (by omega)];congr 1;omega,rfl⟩
   go_wp2
   go_round
   case rel=>exact⟨q - 1,r+yn1,by congr 1;omega,by congr 1,⟨st.out.2.1,by omega,st.out.2.2.1,by omega⟩⟩
   case measure=>simp[intOf];omega
  have he:=yH (aFa.done D1.out hg.out (by omega));have ht':((q*yn0:Nat):Int)≤4294967296*(r:Int)+(d1:Int):=by omega
  clear ht;generalize q*yn0=p at *;go_wp2
  go_meet
  case rel=>exact⟨by rw[←he.out],rfl⟩
 obtain⟨rfl,rfl⟩:=hcut;have e17:=div_rest (u:=u) (d:=d1) (Y:=Y) (by omega) hd1;have hql:(u*4294967296+d1)/Y<4294967296:=aN3 D1.out;have hu2:(u*4294967296+d1)%Y<Y:=Nat.mod_lt _ (by omega);have D2:=yH (D0.out _ hu2);generalize k1:(u*4294967296+d1)/Y=Q1 at *;generalize k2:(u*4294967296+d1)%Y=v at *;have K1:=yH k1;have K2:=yH k2;clear k1 k2;have e15:IntKind.u64.wrap ((v:Int)/(yn1:Int))=((v/yn1:Nat):Int):=aN4 (by omega) (by omega);have e16:IntKind.u64.wrap ((v:Int) - IntKind.u64.wrap (((v/yn1:Nat):Int)*(yn1:Int)))=((v%yn1:Nat):Int):=guess_r (by omega);have G0:=yH (aFa.start D2.out);generalize v/yn1=q0 at e15 e16 G0;generalize v%yn1=r0 at e16 G0
 go_upto_block 2 with fail
 go_cut [16,18] (fun _ a w'=>a=.int .u64 (((v*4294967296+d0)/Y:Nat):Int)∧w=w')
 case first=>
  go_wp2_with fail
  go_loop [18,16] (GuessAt Y yn1 yn0 v d0) (fun a _=>(intOf a).toNat)
  case atStart=>exact⟨q0,r0,rfl,rfl,G0.out⟩
  obtain⟨q,r,rfl,rfl,G⟩:=hrel;have h1:=G.hi;have h2:=G.small;have hg:=yH G;clear G
  by_cases hq:(4294967296:Int)≤(q:Int)
  ·have st:=yH (aFa.step D2.out hg.out (.inl (by omega)));have h1q:(1:Int)≤q:=by have:=st.out.1;omega
   by_cases hr:(4294967296:Int)≤(r:Int)+(yn1:Int)
   ·go_wp2
    go_meet
    case rel=>exact⟨by rw[←pAM D2.out st.out.2.1 st.out.2.2.1 st.out.2.2.2 (by omega)];congr 1;omega,rfl⟩
   go_wp2
   go_round
   case rel=>exact⟨q - 1,r+yn1,by congr 1;omega,by congr 1,⟨st.out.2.1,by omega,st.out.2.2.1,by omega⟩⟩
   case measure=>simp[intOf];omega
  have n1:IntKind.u64.wrap ((q:Int)*(yn0:Int))=((q*yn0:Nat):Int):=aMi (by omega) hyn0
  by_cases ht:4294967296*r+d0<q*yn0
  ·have st:=yH (aFa.step D2.out hg.out (.inr ht));have h1q:(1:Int)≤q:=by have:=st.out.1;omega
   have ht':4294967296*(r:Int)+(d0:Int)<((q*yn0:Nat):Int):=by omega
   clear ht;generalize q*yn0=p at *
   by_cases hr:(4294967296:Int)≤(r:Int)+(yn1:Int)
   ·go_wp2
    go_meet
    case rel=>exact⟨by rw[←pAM D2.out st.out.2.1 st.out.2.2.1 st.out.2.2.2 (by omega)];congr 1;omega,rfl⟩
   go_wp2
   go_round
   case rel=>exact⟨q - 1,r+yn1,by congr 1;omega,by congr 1,⟨st.out.2.1,by omega,st.out.2.2.1,by omega⟩⟩
   case measure=>simp[intOf];omega
  have he:=yH (aFa.done D2.out hg.out (by omega));have ht':((q*yn0:Nat):Int)≤4294967296*(r:Int)+(d0:Int):=by omega
  clear ht;generalize q*yn0=p at *;go_wp2
  go_meet
  case rel=>exact⟨by rw[←he.out],rfl⟩
 obtain⟨rfl,rfl⟩:=hcut;have e18:=div_rest (u:=v) (d:=d0) (Y:=Y) (by omega) hd0;have hql2:(v*4294967296+d0)/Y<4294967296:=aN3 D2.out;have hv2:(v*4294967296+d0)%Y<Y:=Nat.mod_lt _ (by omega);generalize k3:(v*4294967296+d0)/Y=Q0 at e18 hql2 ⊢;generalize k4:(v*4294967296+d0)%Y=z at e18 hv2;have K3:=yH k3;have K4:=yH k4;clear k3 k4;go_wp2;go_ret2;refine⟨?_,rfl⟩;simp only[Array.getD_eq_getD_getElem?,List.getElem?_toArray,List.getElem?_cons_succ,List.getElem?_cons_zero,Option.getD_some];simp only[K1.out,K2.out,K3.out,K4.out]
theorem shl_or{hi lo s:Nat}(hs:s≤63)(hh:hi*2 ^ s<18446744073709551616)(hlo:lo<18446744073709551616):
  bits .or .u64 (IntKind.u64.wrap ((hi:Int)*2 ^ s)) ((lo:Int)/2 ^ (64 - s))=((hi*2 ^ s+lo/2 ^ (64 - s):Nat):Int):=by
 have e1:IntKind.u64.wrap ((hi:Int)*2 ^ s)=((hi*2 ^ s:Nat):Int):=by
  rw[show((hi:Int)*2 ^ s)=((hi*2 ^ s:Nat):Int) by simp,aAy];omega
 have hp:(2:Nat) ^ s*2 ^ (64 - s)=18446744073709551616:=by rw[←Nat.pow_add,show s+(64 - s)=64 by omega]
 have hl:lo/2 ^ (64 - s)<2 ^ s:=by rw[Nat.div_lt_iff_lt_mul (Nat.two_pow_pos _)];omega
 have e2:((lo:Int)/2 ^ (64 - s))=((lo/2 ^ (64 - s):Nat):Int):=by simp
 have hl2:lo/2 ^ (64 - s)≤lo:=Nat.div_le_self _ _;rw[e1,e2,bits_or_u64_nat _ _ hh (by omega),Nat.mul_comm,←Nat.two_pow_add_eq_or_of_lt hl]
theorem div64_zero(lo y:Nat)(w:World)(hy:0<y)(hy2:y<18446744073709551616)(hlo:lo<18446744073709551616):
  Calls Tryz.prog 222 #[.int .u64 0,.int .u64 lo,.int .u64 y] w fun e w'=>
   e=.returned (.tuple #[.int .u64 ((lo/y:Nat):Int),.int .u64 ((lo%y:Nat):Int)])∧Below w.heap.size w w':=by
 have n1:IntKind.u64.wrap ((lo:Int)/(y:Int))=((lo/y:Nat):Int):=aN4 (by omega) (by omega)
 have n2:IntKind.u64.wrap ((lo:Int)%(y:Int))=((lo%y:Nat):Int):=by
  have:=Nat.mod_le lo y;rw[←Int.natCast_emod,aAy];generalize lo%y=k at *;omega
 go_enter Tryz.func222,Tryz.ntmps222;go_wp2
 go_quiet (fail)
 go_wp2;go_ret2;exact⟨rfl,below_drewN yZ _⟩
theorem two_digits(a d Y:Nat)(hY:0<Y):
  (a*4294967296+d)/Y=a/Y*4294967296+(a%Y*4294967296+d)/Y∧(a*4294967296+d)%Y=(a%Y*4294967296+d)%Y:=by
 have h:a*4294967296+d=Y*(a/Y*4294967296)+(a%Y*4294967296+d):=by
  have:=Nat.div_add_mod a Y;rw[←Nat.mul_assoc];generalize Y*(a/Y)=p at *;omega
 constructor
 ·rw[h,Nat.mul_add_div hY]
 rw[h,Nat.mul_add_mod]
theorem aN6(u L N:Nat)(h:u*18446744073709551616+L=N):(u*4294967296+L/4294967296)*4294967296+L%4294967296=N:=by
 have h2:=Nat.div_add_mod L 4294967296;generalize L/4294967296=p at *;generalize L%4294967296=q at *;rw[Nat.add_mul,Nat.mul_assoc,←h,←h2,Nat.mul_comm p];simp only[Nat.reduceMul,Nat.add_assoc]
theorem shl_digits(hi lo s:Nat)(hs:s≤63):
  (hi*2 ^ s+lo/2 ^ (64 - s))*18446744073709551616+lo*2 ^ s%18446744073709551616=(hi*18446744073709551616+lo)*2 ^ s:=by
 have hp:(2:Nat) ^ (64 - s)*2 ^ s=18446744073709551616:=by rw[←Nat.pow_add,show 64 - s+s=64 by omega]
 have e:lo/2 ^ (64 - s)=lo*2 ^ s/18446744073709551616:=by rw[←hp,Nat.mul_div_mul_right _ _ (Nat.two_pow_pos s)]
 have h:=Nat.div_add_mod (lo*2 ^ s) 18446744073709551616;rw[e,Nat.add_mul,Nat.add_mul,Nat.mul_right_comm hi];generalize hi*2 ^ s=p at *;generalize lo*2 ^ s=q at *;omega
theorem div64_pos(hi lo y:Nat)(w:World)(hh:0<hi)(hy:hi<y)(hy2:y<18446744073709551616)(hlo:lo<18446744073709551616):
  Calls Tryz.prog 222 #[.int .u64 hi,.int .u64 lo,.int .u64 y] w fun e w'=>
   e=.returned (.tuple #[.int .u64 (((hi*18446744073709551616+lo)/y:Nat):Int),.int .u64 (((hi*18446744073709551616+lo)%y:Nat):Int)])∧w=w':=by
 obtain⟨b1,b2,b3,b4⟩:=aHm y (by omega) (by omega);obtain⟨s,hs,hs2,hs3⟩:∃s:Nat,64 - (Lib.bitLen y:Int)=s∧s≤63∧Lib.bitLen y+s=64:=⟨64 - Lib.bitLen y,by omega,by omega,by omega⟩;have hp:=Nat.two_pow_pos s
 have p1:y*2 ^ s<18446744073709551616:=by
  have h:=Nat.mul_lt_mul_of_pos_right b3 hp;rw[←Nat.pow_add,hs3]at h;exact h
 have p2:9223372036854775808≤y*2 ^ s:=by
  have h:=Nat.mul_le_mul_right (2 ^ s) (b4.resolve_left (by omega));rw[←Nat.pow_add,hs3,Nat.mul_assoc]at h;generalize y*2 ^ s=p at *;omega
 have p3:hi*2 ^ s+2 ^ s≤y*2 ^ s:=by
  have:=Nat.mul_le_mul_right (2 ^ s) hy;rw[Nat.succ_mul]at this;exact this
 have hp2:(2:Nat) ^ (64 - s)*2 ^ s=18446744073709551616:=by rw[←Nat.pow_add,show 64 - s+s=64 by omega]
 have hl:lo/2 ^ (64 - s)<2 ^ s:=by rw[Nat.div_lt_iff_lt_mul (Nat.two_pow_pos _),Nat.mul_comm];omega
 have r4:=shl_or (hi:=hi) (lo:=lo) hs2 (by omega) hlo;have hdig:=shl_digits hi lo s hs2;have e1:(y:Int)*2 ^ s=((y*2 ^ s:Nat):Int):=by simp
 have e5:(lo:Int)*2 ^ s=((lo*2 ^ s:Nat):Int):=by simp
 have hc:=aN5 hi lo y w hh hy hy2 hlo s (y*2 ^ s) (y*2 ^ s/4294967296) (y*2 ^ s%4294967296) (hi*2 ^ s+lo/2 ^ (64 - s)) (lo*2 ^ s%18446744073709551616)
  (lo*2 ^ s%18446744073709551616/4294967296) (lo*2 ^ s%18446744073709551616%4294967296) (yH hs) hs2
  (by rw[e1,aAy];omega) (by omega) (maskN _ p1) r4 (by rw[e5,aAy];omega) (by omega) (maskN _ (by omega))
  (yH ⟨by omega,by omega,by omega,by omega,by omega,by omega⟩) (yH (fun u' hu'=>⟨by omega,by omega,by omega,by omega,hu',by omega⟩))
  p1 p2 (by omega) (by omega) (by omega) (by omega) (by omega) (by omega)
 refine hc.mono ?_;rintro e w' ⟨rfl,rfl⟩;refine⟨?_,rfl⟩;have hN:((hi*2 ^ s+lo/2 ^ (64 - s))*4294967296+lo*2 ^ s%18446744073709551616/4294967296)*4294967296+lo*2 ^ s%18446744073709551616%4294967296=(hi*18446744073709551616+lo)*2 ^ s:=aN6 _ _ _ hdig;obtain⟨t1,t2⟩:=two_digits ((hi*2 ^ s+lo/2 ^ (64 - s))*4294967296+lo*2 ^ s%18446744073709551616/4294967296) (lo*2 ^ s%18446744073709551616%4294967296) (y*2 ^ s) (by omega);rw[hN,Nat.mul_div_mul_right _ _ hp]at t1;rw[hN,Nat.mul_mod_mul_right]at t2;rw[←t2,t1]
 have e6:(((hi*18446744073709551616+lo)%y*2 ^ s:Nat):Int)/2 ^ s=(((hi*18446744073709551616+lo)%y:Nat):Int):=by
  rw[show((2:Int) ^ s)=((2 ^ s:Nat):Int) by simp,←Int.natCast_ediv,Nat.mul_div_cancel _ hp]
 rw[e6];simp only[Int.natCast_add,Int.natCast_mul];rfl
theorem div64_any(hi lo y:Int)(w:World)(hh:0≤hi)(hy:hi<y)(hy2:y<18446744073709551616)(hlo:aCi lo):
  Calls Tryz.prog 222 #[.int .u64 hi,.int .u64 lo,.int .u64 y] w fun e w'=>
   e=.returned (.tuple #[.int .u64 ((hi*18446744073709551616+lo)/y),.int .u64 ((hi*18446744073709551616+lo)%y)])∧Below w.heap.size w w':=by
 unfold aCi at hlo;obtain⟨H,rfl⟩:=Int.eq_ofNat_of_zero_le hh;obtain⟨L,rfl⟩:=Int.eq_ofNat_of_zero_le hlo.1;obtain⟨Y,rfl⟩:=Int.eq_ofNat_of_zero_le (show 0≤y by omega);rcases Nat.eq_zero_or_pos H with rfl|hH
 ·refine(div64_zero L Y w (by omega) (by omega) (by omega)).mono ?_;rintro e w' ⟨rfl,hb⟩;refine⟨?_,hb⟩;simp
 refine(div64_pos H L Y w hH (by omega) (by omega) (by omega)).mono ?_;rintro e w' ⟨rfl,rfl⟩;refine⟨?_,yZ⟩;simp
def hi64(x:Int):Int:=x/18446744073709551616%18446744073709551616
def lo64(x:Int):Int:=x%18446744073709551616
def aHx(x:Int):Value:=.agg #[.int .u64 (hi64 x),.int .u64 (lo64 x)]
theorem aN7(x:Int):aCi (hi64 x):=by unfold hi64 aCi;omega
theorem aN8(x:Int):aCi (lo64 x):=by unfold lo64 aCi;omega
theorem aDe(x:Int):aHx x=.agg #[.int .u64 (hi64 x),.int .u64 (lo64 x)]:=rfl
theorem aK4(x a b:Int)(ha:a=hi64 x)(hb:b=lo64 x):Value.agg #[.int .u64 a,.int .u64 b]=aHx x:=by rw[ha,hb];rfl
def okN(x:Int):Int:=if In64 x then x else 0
def erN(x:Int):Int:=if In64 x then 0 else 10
def ans(x:Int):Value:=.tuple #[.int .i64 (okN x),.int .i64 (erN x)]
theorem aGp(n:Int)(w:World)(h:In64 n):
  Calls Tryz.prog 129 #[.int .i64 n] w (yR w (aHx n)):=by
 have hv:=yH (aK4 n (IntKind.u64.wrap (n/9223372036854775808)) (IntKind.u64.wrap n) (by unfold In64 at h;rw[aAy,hi64];omega) (by rw[aAy,lo64]));obtain⟨h1,h2⟩:=h;go_enter Tryz.func129,Tryz.ntmps129;go_wp2;refine bodyPost_ret (v:=aHx n) ?_ rfl ⟨rfl,yZ.alloc yL _⟩;simp[results,Tryz.results129,go_sem];exact hv.out
theorem plus_any(x y:Int)(w:World):
  Calls Tryz.prog 128 #[aHx x,aHx y] w (yR w (aHx (x+y))):=by
 have bx:=aN8 x;have by':=aN8 y;have cx:=aN7 x;have cy:=aN7 y
 have hv:=yH (aK4 (x+y) ((hi64 x+hi64 y+(lo64 x+lo64 y)/18446744073709551616)%18446744073709551616) ((lo64 x+lo64 y)%18446744073709551616) (by unfold hi64 lo64;omega) (by unfold lo64;omega));have a1:=fun w=>aMe (lo64 x) (lo64 y) 0 bx.1 by'.1 (by omega) (by omega) w
 unfold aCi at bx by' cx cy
 have a2:=fun w=>aMe (hi64 x) (hi64 y) ((lo64 x+lo64 y)/18446744073709551616) cx.1 cy.1 (by omega) (by omega) w
 simp only[Int.add_zero]at a1;rw[aDe,aDe];go_enter Tryz.func128,Tryz.ntmps128;go_wp2;refine bodyPost_ret (v:=aHx (x+y)) ?_ rfl ⟨rfl,((yZ.alloc yL _).alloc (by simp) _).alloc (by simp;omega) _⟩;simp[results,Tryz.results128,go_sem];exact hv.out
theorem prod_hi(a b:Int)(ha:In64 a)(hb:In64 b):
  ((a%18446744073709551616)*(b%18446744073709551616)/18446744073709551616 - (if a<0 then b else 0) - (if b<0 then a else 0))%18446744073709551616=hi64 (a*b):=by
 unfold hi64 In64 at *;obtain⟨s,hs,hs2⟩:∃s:Int,a%18446744073709551616=a+s*18446744073709551616∧s=if a<0 then 1 else 0:=⟨_,by split <;> omega,rfl⟩
 obtain⟨t,ht,ht2⟩:∃t:Int,b%18446744073709551616=b+t*18446744073709551616∧t=if b<0 then 1 else 0:=⟨_,by split <;> omega,rfl⟩
 rw[hs,ht];have e1:(if a<0 then b else 0)=s*b:=by rw[hs2];split <;> simp
 have e2:(if b<0 then a else 0)=t*a:=by rw[ht2];split <;> simp
 rw[e1,e2]
 have e3:(a+s*18446744073709551616)*(b+t*18446744073709551616)=a*b+(s*b+t*a+s*t*18446744073709551616)*18446744073709551616:=by
  simp only[Int.add_mul,Int.mul_add]
  rw[show s*18446744073709551616*b=s*b*18446744073709551616 by rw[Int.mul_assoc,Int.mul_comm 18446744073709551616 b,←Int.mul_assoc],
   show s*18446744073709551616*(t*18446744073709551616)=s*t*18446744073709551616*18446744073709551616 by
    rw[←Int.mul_assoc,Int.mul_assoc s 18446744073709551616 t,Int.mul_comm 18446744073709551616 t,←Int.mul_assoc],
   show a*(t*18446744073709551616)=t*a*18446744073709551616 by rw[←Int.mul_assoc,Int.mul_comm a t]]
  omega
 rw[e3];generalize a*b=p at *;generalize s*b=q at *;generalize t*a=r at *;generalize s*t=u at *;omega
theorem mul_u64_bd(a b:Int)(ha:aCi a)(hb:aCi b):0≤a*b/18446744073709551616∧a*b/18446744073709551616<18446744073709551616:=by
 unfold aCi at *;have h0:0≤a*b:=Int.mul_nonneg ha.1 hb.1;have h1:a*b≤18446744073709551615*18446744073709551615:=Int.mul_le_mul (by omega) (by omega) hb.1 (by omega);omega
theorem prod_lo(a b:Int):(a%18446744073709551616)*(b%18446744073709551616)%18446744073709551616=lo64 (a*b):=by
 unfold lo64;rw[←Int.mul_emod]
theorem aN9(a b:Int)(w:World)(ha:In64 a)(hb:In64 b):
  Calls Tryz.prog 221 #[.int .i64 a,.int .i64 b] w (yR w (aHx (a*b))):=by
 have hh:=yH (prod_hi a b ha hb);have hl:=yH (prod_lo a b);have ua:IntKind.u64.wrap a=a%18446744073709551616:=aAy a;have ub:IntKind.u64.wrap b=b%18446744073709551616:=aAy b;have ia:aCi (a%18446744073709551616):=by unfold aCi;omega
 have ib:aCi (b%18446744073709551616):=by unfold aCi;omega
 obtain⟨a1,a2⟩:=ha;obtain⟨b1,b2⟩:=hb
 by_cases na:a<0 <;> by_cases nb:b<0
 all_goals
  go_enter Tryz.func221,Tryz.ntmps221;go_wp2_with (go_at_call 25;refine(aDs _ _ _ ia ib).mono ?_;rintro e w' ⟨rfl,rfl⟩);refine bodyPost_ret (v:=aHx (a*b)) ?_ rfl ⟨rfl,yZ.alloc yL _⟩;simp[results,Tryz.results221,go_sem];refine aK4 _ _ _ ?_ hl.out;rw[←hh.out]
  try simp only[aAy]
  have hP:=mul_u64_bd _ _ ia ib;generalize a%18446744073709551616*(b%18446744073709551616)=p at hP ⊢
  (repeat' split) <;> omega
theorem aOa(a b c d:Int)(w:World):
  (Op.equalIn 10000 185 (.agg #[.int .u64 a,.int .u64 b]) (.agg #[.int .u64 c,.int .u64 d])).run Tryz.prog w=.ok (a==c && b==d) w:=by
 have h:=aGu (P:=Tryz.prog) 9999 185 39 2 Tryz.underlying185 (fun w=>by kernel_rfl) (fun w=>by kernel_rfl) #[.int .u64 a,.int .u64 b] #[.int .u64 c,.int .u64 d] rfl rfl
  (fun i=>if i=0 then a==c else b==d) (by
   intro i x y w hx hy
   match i,hx,hy with
   | 0,hx,hy=>simp at hx hy;subst hx hy;exact run_equalIn_int w 9998 39 .u64 .u64 a c Tryz.underlying39
   | 1,hx,hy=>simp at hx hy;subst hx hy;exact run_equalIn_int w 9998 39 .u64 .u64 b d Tryz.underlying39
   | n+2,hx,_=>simp at hx) w
 rw[h];simp[List.range_succ]
theorem narrow_eq(x:Int)(h1:-170141183460469231731687303715884105728≤x)(h2:x<170141183460469231731687303715884105728):
  wrap64 (lo64 x)=x∨(¬In64 x∧(hi64 (wrap64 (lo64 x))==hi64 x && lo64 (wrap64 (lo64 x))==lo64 x)=false):=by
 obtain⟨h3,h4⟩:=aJx (lo64 x);generalize wrap64 (lo64 x)=y at *;unfold In64 hi64 lo64 at *
 by_cases h:y=x
 ·exact .inl h
 right
 constructor
 ·omega
 rw[Bool.and_eq_false_iff];left;rw[beq_eq_false_iff_ne];omega
theorem aKa(x:Int)(w:World)(h1:-170141183460469231731687303715884105728≤x)(h2:x<170141183460469231731687303715884105728):
  Calls Tryz.prog 130 #[aHx x] w (yR w (ans x)):=by
 have hq:=aOa;have h64:=(aJx (lo64 x)).1;have key:=narrow_eq x h1 h2;clear h1 h2;rw[aDe];go_enter Tryz.func130,Tryz.ntmps130;go_wp2;have hk:=pAA w #[Value.int IntKind.u64 (hi64 x),Value.int IntKind.u64 (lo64 x)] 185;have hbw:Below w.heap.size w (w.alloc (Obj.cells #[Value.int IntKind.u64 (hi64 x),Value.int IntKind.u64 (lo64 x)] 185)):=yZ.alloc yL _;have hs:w.heap.size<(w.alloc (Obj.cells #[Value.int IntKind.u64 (hi64 x),Value.int IntKind.u64 (lo64 x)] 185)).heap.size:=by simp
 generalize w.alloc (Obj.cells #[Value.int IntKind.u64 (hi64 x),Value.int IntKind.u64 (lo64 x)] 185)=W at *;have hc0:W.cell? ⟨w.heap.size,0,none⟩=some (.int .u64 (hi64 x)):=hk.cell 0;have hc1:W.cell? ⟨w.heap.size,1,none⟩=some (.int .u64 (lo64 x)):=hk.cell 1;generalize wrap64 (lo64 x)=y at *;have hfit:In64 x→okN x=x∧erN x=0:=fun h=>by simp[okN,erN,h]
 have hnot:¬In64 x→okN x=0∧erN x=10:=fun h=>by simp[okN,erN,h]
 have hk1:=yH hfit;have hk2:=yH hnot;clear hfit hnot;rcases key with rfl|⟨hn,hne⟩
 ·go_region_held3 (fun w'=>w'.cell? ⟨w.heap.size,0,none⟩=some (.int .u64 (hi64 y))∧w'.cell? ⟨w.heap.size,1,none⟩=some (.int .u64 (lo64 y))) (go_keep)
   (first|(go_at_call 129;refine(aGp _ _ h64).mono ?_;simp only[aDe];rintro e w' ⟨rfl,hb⟩;have c0:=(bcell hb).1 _ 0 hs;have c1:=(bcell hb).1 _ 1 hs))
  go_wp2;go_ret2;refine⟨by rw[ans,(hk1.out h64).1,(hk1.out h64).2];rfl,hbw.trans ((pAB hb).mono (by simp;omega))⟩
 go_region_held3 (fun w'=>w'.cell? ⟨w.heap.size,0,none⟩=some (.int .u64 (hi64 x))∧w'.cell? ⟨w.heap.size,1,none⟩=some (.int .u64 (lo64 x))) (go_keep)
  (first|(go_at_call 129;refine(aGp _ _ h64).mono ?_;simp only[aDe];rintro e w' ⟨rfl,hb⟩;have c0:=(bcell hb).1 _ 0 hs;have c1:=(bcell hb).1 _ 1 hs))
 go_wp2;go_ret2;exact⟨by rw[ans,(hk2.out hn).1,(hk2.out hn).2];rfl,hbw.trans ((pAB hb).mono (by simp;omega))⟩
theorem add_any(a b:Int)(w:World)(ha:In64 a)(hb:In64 b):
  Calls Tryz.prog 208 #[.int .i64 a,.int .i64 b] w (yR w (ans (a+b))):=by
 have h1:-170141183460469231731687303715884105728≤a+b∧a+b<170141183460469231731687303715884105728:=by unfold In64 at ha hb;omega
 go_enter Tryz.func208,Tryz.ntmps208;go_wp2_with fail;refine(aGp a _ ha).mono ?_;rintro e w1 ⟨rfl,b1⟩;go_wp2_with fail;refine(aGp b _ hb).mono ?_;rintro e w2 ⟨rfl,b2⟩;go_wp2_with fail;refine(plus_any a b _).mono ?_;rintro e w3 ⟨rfl,b3⟩;go_wp2_with fail;refine(aKa (a+b) _ h1.1 h1.2).mono ?_;rintro e w4 ⟨rfl,b4⟩;unfold ans;go_wp2;go_ret2;exact⟨rfl,andB (andB (andB b1 b2) b3) b4⟩
theorem mul_bd(a b:Int)(ha:In64 a)(hb:In64 b):-170141183460469231731687303715884105728≤a*b∧a*b<170141183460469231731687303715884105728:=by
 unfold In64 at *
 have h:(a*b).natAbs≤9223372036854775808*9223372036854775808:=by
  rw[Int.natAbs_mul];exact Nat.mul_le_mul (by omega) (by omega)
 omega
def aOb(n den:Int):Int:=if In64 (n/den)then n%den else 0
def divV(n den:Int):Value:=.tuple #[.int .i64 (okN (n/den)),.int .i64 (aOb n den),.int .i64 (erN (n/den))]
theorem aKb(a num den:Int)(w:World)(hbad:a<0∨num<0∨den<1):
  Calls Tryz.prog 207 #[.int .i64 a,.int .i64 num,.int .i64 den] w (yR w (.tuple #[.int .i64 0,.int .i64 0,.int .i64 1])):=by
 by_cases h1:a<0
 ·go_enter Tryz.func207,Tryz.ntmps207;go_wp2_with fail
  go_ret3
  exact⟨rfl,yZ⟩
 by_cases h2:num<0
 ·go_enter Tryz.func207,Tryz.ntmps207;go_wp2_with fail
  go_ret3
  exact⟨rfl,yZ⟩
 have h3:den<1:=by omega
 go_enter Tryz.func207,Tryz.ntmps207;go_wp2_with fail
 go_ret3
 exact⟨rfl,yZ⟩
theorem div_facts(n den:Int)(h0:0≤n)(h1:n<170141183460469231731687303715884105728)(hd:1≤den)(hd2:In64 den):
  hi64 n=n/18446744073709551616∧hi64 n*18446744073709551616+lo64 n=n∧(den≤hi64 n→¬In64 (n/den))∧
  (hi64 n<den→aCi (n/den))∧In64 (n%den):=by
 unfold In64 at hd2;have e:hi64 n=n/18446744073709551616:=by unfold hi64;omega
 have hm:=Int.emod_nonneg n (show den≠0 by omega);have hm2:=Int.emod_lt_of_pos n (show 0<den by omega);have hq:=Int.ediv_nonneg h0 (show 0≤den by omega);have hdm:=Int.mul_ediv_add_emod n den;refine⟨e,by rw[e];unfold lo64;omega,?_,?_,by unfold In64;omega⟩
 ·intro h hc;unfold In64 at hc;rw[e]at h;have h2:den*(n/den)≤den*9223372036854775807:=Int.mul_le_mul_of_nonneg_left hc.2 (by omega);generalize den*(n/den)=p at *;omega
 intro h;rw[e]at h;refine⟨hq,?_⟩;rw[Int.ediv_lt_iff_lt_mul (by omega)];omega
theorem aKc(a num den:Int)(w:World)(ha:In64 a)(hn:In64 num)(hd:In64 den)(h1:0≤a)(h2:0≤num)(h3:1≤den):
  Calls Tryz.prog 207 #[.int .i64 a,.int .i64 num,.int .i64 den] w (yR w (divV (a*num) den)):=by
 have hmb:=mul_bd a num ha hn;have h0:0≤a*num:=Int.mul_nonneg h1 h2;obtain⟨f1,f2,f3,f4,f5⟩:=div_facts (a*num) den h0 hmb.2 h3 hd;have hpr:=yH (fun w=>aN9 a num w ha hn);have bl:=aN8 (a*num);have bh:=aN7 (a*num);unfold In64 at ha hn hd;unfold aCi at bl bh;have ud:IntKind.u64.wrap den=den:=by rw[aAy];omega
 have F1:=yH f1;have F2:=yH f2;have F3:=yH f3;have F4:=yH f4;have F5:=yH f5;clear f1 f2 f3 f4 f5 h0 hmb;generalize hN:a*num=n at *;clear hN
 by_cases hb:den≤hi64 n
 ·have hv:divV n den=.tuple #[.int .i64 0,.int .i64 0,.int .i64 10]:=by simp[divV,aOb,okN,erN,F3.out hb]
  have HV:=yH hv;clear hv;go_enter Tryz.func207,Tryz.ntmps207;go_wp2_with fail;refine(hpr.out _).mono ?_;simp only[aDe];rintro e w1 ⟨rfl,b1⟩;go_wp2_with fail
  go_ret3
  exact⟨by rw[HV.out];rfl,b1.trans (yZ.alloc b1.size _)⟩
 have hlt:hi64 n<den:=by omega
 have hq:=F4.out hlt;have hd6:=yH (fun w=>div64_any (hi64 n) (lo64 n) den w bh.1 hlt (by omega) bl)
 have hwq:aHx (n/den)=.agg #[.int .u64 0,.int .u64 (n/den)]:=by
  unfold aCi at hq;rw[aDe,show hi64 (n/den)=0 by unfold hi64;omega,show lo64 (n/den)=n/den by unfold lo64;omega]
 have hnar:=yH (fun w=>aKa (n/den) w (by unfold aCi at hq;omega) (by unfold aCi at hq;omega));rw[hwq]at hnar;have hr:=F5.out;clear hwq
 by_cases hf:In64 (n/den)
 ·have hv:divV n den=.tuple #[.int .i64 (n/den),.int .i64 (n%den),.int .i64 0]:=by simp[divV,aOb,okN,erN,hf]
  have hans:ans (n/den)=.tuple #[.int .i64 (n/den),.int .i64 0]:=by simp[ans,okN,erN,hf]
  rw[hans]at hnar;have HV:=yH hv;clear hv hans;go_enter Tryz.func207,Tryz.ntmps207;go_wp2_with fail;refine(hpr.out _).mono ?_;simp only[aDe];rintro e w1 ⟨rfl,b1⟩;go_wp2_with fail;refine(hd6.out _).mono ?_;rw[F2.out];rintro e w2 ⟨rfl,b2⟩;go_wp2_with fail;refine(hnar.out _).mono ?_;rintro e w3 ⟨rfl,b3⟩;go_wp2_with fail
  go_ret3
  refine⟨by have e:=HV.out;rw[←aCj _ hr]at e;rw[e];rfl,?_⟩;have c1:Below w.heap.size w (w1.alloc (.cells #[.int .u64 (hi64 n),.int .u64 (lo64 n)] 185)):=b1.alloc b1.size _;exact andB (andB c1 b2) b3
 have hv:divV n den=.tuple #[.int .i64 0,.int .i64 0,.int .i64 10]:=by simp[divV,aOb,okN,erN,hf]
 have hans:ans (n/den)=.tuple #[.int .i64 0,.int .i64 10]:=by simp[ans,okN,erN,hf]
 rw[hans]at hnar;have HV:=yH hv;clear hv hans;go_enter Tryz.func207,Tryz.ntmps207;go_wp2_with fail;refine(hpr.out _).mono ?_;simp only[aDe];rintro e w1 ⟨rfl,b1⟩;go_wp2_with fail;refine(hd6.out _).mono ?_;rw[F2.out];rintro e w2 ⟨rfl,b2⟩;go_wp2_with fail;refine(hnar.out _).mono ?_;rintro e w3 ⟨rfl,b3⟩;go_wp2_with fail
 go_ret3
 refine⟨by rw[HV.out];rfl,?_⟩;have c1:Below w.heap.size w (w1.alloc (.cells #[.int .u64 (hi64 n),.int .u64 (lo64 n)] 185)):=b1.alloc b1.size _;exact andB (andB c1 b2) b3
def aJt(a num den:Int):Value:=if a<0∨num<0∨den<1 then .tuple #[.int .i64 0,.int .i64 1]else ans (a*num/den)
theorem down_any(a num den:Int)(w:World)(ha:In64 a)(hn:In64 num)(hd:In64 den):
  Calls Tryz.prog 206 #[.int .i64 a,.int .i64 num,.int .i64 den] w (yR w (aJt a num den)):=by
 by_cases hbad:a<0∨num<0∨den<1
 ·have hv:=yH (show aJt a num den=.tuple #[.int .i64 0,.int .i64 1] by simp[aJt,hbad]);have hc:=yH (fun w=>aKb a num den w hbad);clear hbad;go_enter Tryz.func206,Tryz.ntmps206;go_wp2_with fail;refine(hc.out _).mono ?_;rintro e w1 ⟨rfl,b1⟩;go_wp2_with fail;go_ret2;exact⟨by rw[hv.out];rfl,b1⟩
 have hv:=yH (show aJt a num den=ans (a*num/den) by simp[aJt,hbad]);have hc:=yH (fun w=>aKc a num den w ha hn hd (by omega) (by omega) (by omega));clear hbad;go_enter Tryz.func206,Tryz.ntmps206;go_wp2_with fail;refine(hc.out _).mono ?_;unfold divV;rintro e w1 ⟨rfl,b1⟩;go_wp2_with fail;go_ret2;exact⟨by rw[hv.out];rfl,b1⟩
def upN(n den:Int):Int:=if n%den=0 then n/den else n/den+1
def upV(a num den:Int):Value:=if a<0∨num<0∨den<1 then .tuple #[.int .i64 0,.int .i64 1]else ans (upN (a*num) den)
theorem up_any(a num den:Int)(w:World)(ha:In64 a)(hn:In64 num)(hd:In64 den):
  Calls Tryz.prog 186 #[.int .i64 a,.int .i64 num,.int .i64 den] w (yR w (upV a num den)):=by
 by_cases hbad:a<0∨num<0∨den<1
 ·have hv:=yH (show upV a num den=.tuple #[.int .i64 0,.int .i64 1] by simp[upV,hbad]);have hc:=yH (fun w=>aKb a num den w hbad);clear hbad;go_enter Tryz.func186,Tryz.ntmps186;go_wp2_with fail;refine(hc.out _).mono ?_;rintro e w1 ⟨rfl,b1⟩;go_wp2_with fail;go_ret2;exact⟨by rw[hv.out];rfl,b1⟩
 have hv:=yH (show upV a num den=ans (upN (a*num) den) by simp[upV,hbad]);have hc:=yH (fun w=>aKc a num den w ha hn hd (by omega) (by omega) (by omega));have hm:=mul_bd a num ha hn;have h0:0≤a*num:=Int.mul_nonneg (by omega) (by omega);have hd1:1≤den:=by omega
 have hq0:0≤a*num/den:=Int.ediv_nonneg h0 (by omega);clear hbad;generalize a*num=n at *
 by_cases hf:In64 (n/den)
 ·by_cases hz:n%den=0
  ·have hdv:divV n den=.tuple #[.int .i64 (n/den),.int .i64 0,.int .i64 0]:=by simp[divV,aOb,okN,erN,hf,hz]
   have hans:ans (upN n den)=.tuple #[.int .i64 (n/den),.int .i64 0]:=by simp[ans,upN,hz,okN,erN,hf]
   have hA:=yH hans;rw[hdv]at hc;clear hdv hans hz;go_enter Tryz.func186,Tryz.ntmps186;go_wp2_with fail;refine(hc.out _).mono ?_;rintro e w1 ⟨rfl,b1⟩;go_wp2_with fail;go_ret2;exact⟨by rw[hv.out,hA.out];rfl,b1⟩
  have hdv:divV n den=.tuple #[.int .i64 (n/den),.int .i64 (n%den),.int .i64 0]:=by simp[divV,aOb,okN,erN,hf]
  have hans:upN n den=n/den+1:=by simp[upN,hz]
  have hA:=yH hans;have hb:(n%den==0)=false:=by simp[hz]
  have hadd:=yH (fun w=>add_any (n/den) 1 w hf (by unfold In64;omega));rw[hdv]at hc;clear hdv hans hz;go_enter Tryz.func186,Tryz.ntmps186;go_wp2_with fail;refine(hc.out _).mono ?_;rintro e w1 ⟨rfl,b1⟩;go_wp2_with fail;refine(hadd.out _).mono ?_;unfold ans;rintro e w2 ⟨rfl,b2⟩;go_wp2_with fail;go_ret2;exact⟨by rw[hv.out,hA.out];rfl,andB b1 b2⟩
 have hdv:divV n den=.tuple #[.int .i64 0,.int .i64 0,.int .i64 10]:=by simp[divV,aOb,okN,erN,hf]
 have hnf:¬In64 (upN n den):=by unfold upN;unfold In64 at *;split <;> omega
 have hans:ans (upN n den)=.tuple #[.int .i64 0,.int .i64 10]:=by simp[ans,okN,erN,hnf]
 have hA:=yH hans;rw[hdv]at hc;clear hdv hans hnf;go_enter Tryz.func186,Tryz.ntmps186;go_wp2_with fail;refine(hc.out _).mono ?_;rintro e w1 ⟨rfl,b1⟩;go_wp2_with fail;go_ret2;exact⟨by rw[hv.out,hA.out];rfl,b1⟩
theorem ans_of(x:Int)(h:In64 x):ans x=.tuple #[.int .i64 x,.int .i64 0]:=by simp[ans,okN,erN,h]
theorem ans_not(x:Int)(h:¬In64 x):ans x=.tuple #[.int .i64 0,.int .i64 10]:=by simp[ans,okN,erN,h]
theorem gcd_step(x y k:Int):Int.gcd (x - y*k) y=Int.gcd x y:=by
 rw[Int.sub_eq_add_neg,←Int.mul_neg];exact Int.gcd_add_mul_left_left y x (-k)
def MayN(n d:Int):Prop:=1≤n∧1≤d∧n≤1099511627776∧d≤1099511627776∧Int.gcd n d=1
instance(n d:Int):Decidable (MayN n d):=inferInstanceAs (Decidable (_∧_))
def mayB(n d:Int):Bool:=decide (MayN n d)
def aKd(a n d:Int):Value:=if mayB n d then aJt a n d else .tuple #[.int .i64 0,.int .i64 1]
def upV2(a n d:Int):Value:=if mayB n d then upV a n d else .tuple #[.int .i64 0,.int .i64 1]
end Go.Proofs.YtaeocliklpcgmaaGreat
