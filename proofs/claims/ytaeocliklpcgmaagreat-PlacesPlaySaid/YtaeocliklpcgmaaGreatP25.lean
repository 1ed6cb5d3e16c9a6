/- Pieces of one proof. -/
import Derived.Test.YtaeocliklpcgmaaGreatP24
import Derived.Shelf.Abstract
set_option linter.all false
set_option maxHeartbeats 64000000
set_option maxRecDepth 100000
namespace Go.Proofs.YtaeocliklpcgmaaGreat
open Go.RowKit
theorem aQl:∀(vs:List Int) {n:Int},n≤1099511627776 → -9223372036854775808≤n→(∀v∈vs,-9223372036854775808≤v)→In64 (aBp n vs)
 | [],n,h1,h2,_=>⟨by unfold aBp;omega,by unfold aBp;omega⟩
 | v::vs,n,h1,h2,h=>by
  unfold aBp;split
  ·exact⟨by omega,by omega⟩
  rename_i hz;have:=h v (List.mem_cons_self);exact aQl vs (by omega) (by omega) (fun x hx=>h x (List.mem_cons_of_mem _ hx))
theorem ffits_any(HM:aEf){w:World}{G M:Nat}{ps:List Int}{ls:List Ln}{o:Of}(h:LedM w G M ps ls)(hI:LInv ps ls)(hf:o.Fits)(tk pt want most:Int)(ht:In8 tk)(hm:In64 most){m1 m2:Int}(g:Goes ps ls o tk pt m1 m2):
  Calls Tryz.prog 85 #[filV (some ⟨G,0,none⟩) o tk pt want most] w (yR w (.int .i64 (fitN (aBp 1099511627776 [most,m2]) o.nu o.de))):=by
 have bw:=(Below.refl w.heap.size w).alloc yL (.cells (filC (some ⟨G,0,none⟩) o tk pt want most) 146);have KX:=yH (pAA w (filC (some ⟨G,0,none⟩) o tk pt want most) 146);have B:=yH bw;have hbd:=g.bd hI;have H64a:=yH hm;have H64b:Hid (In64 m2):=yH ⟨by omega,by omega⟩;have H64l:Hid (In64 (aBp 1099511627776 [most,m2])):=yH (aQl _ (by omega) (by omega) (by intro v hv;simp only[yI,yJ,or_false]at hv;rcases hv with rfl|rfl;exact hm.1;omega));have HF:=yH hf;have L:=h.below bw
 have HA:Hid (Bnd (w.alloc (.cells (filC (some ⟨G,0,none⟩) o tk pt want most) 146)) (filV (some ⟨G,0,none⟩) o tk pt want most) (135,most)):=yH
  ⟨enters_of Tryz.func135 (by kernel_rfl) rfl,fun w' k=>aQk _ o tk pt want most w'⟩
 have HBo:Hid (Bnd (w.alloc (.cells (filC (some ⟨G,0,none⟩) o tk pt want most) 146)) (filV (some ⟨G,0,none⟩) o tk pt want most) (136,m2)):=yH
  ⟨enters_of Tryz.func136 (by kernel_rfl) rfl,fun w' k=>aSs HM (L.below k) hI hf tk pt want most ht g⟩
 clear bw h hI hf hm hbd L g;go_enter Tryz.func85,Tryz.ntmps85
 go_upto_region 1 with fail
 generalize w.alloc (.cells #[.pointer (some ⟨G,0,none⟩),.int .u64 o.se,.int .u8 o.ow,.int .u8 o.sl,.int .u8 o.bu,.int .i64 o.lf,.int .i64 o.nu,.int .i64 o.de,.int .u8 tk,.int .u8 pt,.int .i64 want,.int .i64 most] 146)=W at *
 refine aA0 (by kernel_rfl) (fun g:Nat→Nat=>[(filV (some ⟨G,0,none⟩) o tk pt want most),(.func (.func 135) #[(filV (some ⟨G,0,none⟩) o tk pt want most)] #[]),(filV (some ⟨G,0,none⟩) o tk pt want most),(.func (.func 136) #[(filV (some ⟨G,0,none⟩) o tk pt want most)] #[]),(.slice (some ⟨g 4,0,none⟩) 2 2),(.int .i64 (aBp 1099511627776 [most,m2])),(.pointer (some ⟨w.heap.size,1,none⟩)),(.pointer (some ⟨w.heap.size,6,none⟩)),(.agg #[.int .i64 o.nu,.int .i64 o.de]),(.int .i64 (fitN (aBp 1099511627776 [most,m2]) o.nu o.de)),(.int .i64 (fitN (aBp 1099511627776 [most,m2]) o.nu o.de))])
  (Lays W [(⟨4,4,(.cells #[(.func (.func 135) #[(filV (some ⟨G,0,none⟩) o tk pt want most)] #[]),(.func (.func 136) #[(filV (some ⟨G,0,none⟩) o tk pt want most)] #[])] 148),(.cells #[(.func (.func 135) #[(filV (some ⟨G,0,none⟩) o tk pt want most)] #[]),(.func (.func 136) #[(filV (some ⟨G,0,none⟩) o tk pt want most)] #[])] 148)⟩:Spec)]) (by kernel_rfl) (fun _=>0) (Lays.start _ _ _) ?_
 intro AF hAF;simp only[yG,puts,Act.put,yA,yC,yF,yD,yE]at hAF;have hAF2:_=AF:=funext hAF;subst hAF2;clear hAF;refine⟨?_,?_⟩
 ·simp only[yG,aEb];refine⟨?_,?_,?_,?_,?_,?_,?_,?_,?_,?_,?_,trivial⟩
  ·intro g D w' hD hW hC hI;refine⟨g,fun _ _ _=>rfl,?_⟩;with_reducible refine yO rfl ?_
   have hS:=hI.below;have d0_0:=(KX.out.below hS KX.out.lt).cell 0;have d0_1:=(KX.out.below hS KX.out.lt).cell 1;have d0_2:=(KX.out.below hS KX.out.lt).cell 2;have d0_3:=(KX.out.below hS KX.out.lt).cell 3;have d0_4:=(KX.out.below hS KX.out.lt).cell 4;have d0_5:=(KX.out.below hS KX.out.lt).cell 5;have d0_6:=(KX.out.below hS KX.out.lt).cell 6;have d0_7:=(KX.out.below hS KX.out.lt).cell 7;have d0_8:=(KX.out.below hS KX.out.lt).cell 8;have d0_9:=(KX.out.below hS KX.out.lt).cell 9;have d0_10:=(KX.out.below hS KX.out.lt).cell 10;have d0_11:=(KX.out.below hS KX.out.lt).cell 11;simp at d0_0 d0_1 d0_2 d0_3 d0_4 d0_5 d0_6 d0_7 d0_8 d0_9 d0_10 d0_11;have HS:=yH (hI.step yZ (k:=0) (by rfl));clear hI hS hC hW hD;go_wp2_with fail;all_goals first|exact HS|exact⟨rfl,HS⟩|rfl
  ·intro g D w' hD hW hC hI;refine⟨g,fun _ _ _=>rfl,?_⟩;with_reducible refine yO rfl ?_
   have HS:=yH (hI.step yZ (k:=1) (by rfl));clear hI hC hW hD;go_wp2_with fail;all_goals first|exact HS|exact⟨rfl,HS⟩|rfl
  ·intro g D w' hD hW hC hI;refine⟨g,fun _ _ _=>rfl,?_⟩;with_reducible refine yO rfl ?_
   have hS:=hI.below;have d0_0:=(KX.out.below hS KX.out.lt).cell 0;have d0_1:=(KX.out.below hS KX.out.lt).cell 1;have d0_2:=(KX.out.below hS KX.out.lt).cell 2;have d0_3:=(KX.out.below hS KX.out.lt).cell 3;have d0_4:=(KX.out.below hS KX.out.lt).cell 4;have d0_5:=(KX.out.below hS KX.out.lt).cell 5;have d0_6:=(KX.out.below hS KX.out.lt).cell 6;have d0_7:=(KX.out.below hS KX.out.lt).cell 7;have d0_8:=(KX.out.below hS KX.out.lt).cell 8;have d0_9:=(KX.out.below hS KX.out.lt).cell 9;have d0_10:=(KX.out.below hS KX.out.lt).cell 10;have d0_11:=(KX.out.below hS KX.out.lt).cell 11;simp at d0_0 d0_1 d0_2 d0_3 d0_4 d0_5 d0_6 d0_7 d0_8 d0_9 d0_10 d0_11;have HS:=yH (hI.step yZ (k:=2) (by rfl));clear hI hS hC hW hD;go_wp2_with fail;all_goals first|exact HS|exact⟨rfl,HS⟩|rfl
  ·intro g D w' hD hW hC hI;refine⟨g,fun _ _ _=>rfl,?_⟩;with_reducible refine yO rfl ?_
   have HS:=yH (hI.step yZ (k:=3) (by rfl));clear hI hC hW hD;go_wp2_with fail;all_goals first|exact HS|exact⟨rfl,HS⟩|rfl
  ·intro g D w' hD hW hC hI;refine⟨upd g 4 w'.heap.size,aDm _ (fun g:Nat→Nat=>[(filV (some ⟨G,0,none⟩) o tk pt want most),(.func (.func 135) #[(filV (some ⟨G,0,none⟩) o tk pt want most)] #[]),(filV (some ⟨G,0,none⟩) o tk pt want most),(.func (.func 136) #[(filV (some ⟨G,0,none⟩) o tk pt want most)] #[]),(.slice (some ⟨g 4,0,none⟩) 2 2),(.int .i64 (aBp 1099511627776 [most,m2])),(.pointer (some ⟨w.heap.size,1,none⟩)),(.pointer (some ⟨w.heap.size,6,none⟩)),(.agg #[.int .i64 o.nu,.int .i64 o.de]),(.int .i64 (fitN (aBp 1099511627776 [most,m2]) o.nu o.de)),(.int .i64 (fitN (aBp 1099511627776 [most,m2]) o.nu o.de))]) g 4 _ 12 hC hD ?_,?_⟩
   ·intro j hj
    match j,hj with
    | 0,_=>exact .inr rfl
    | 1,_=>exact .inr rfl
    | 2,_=>exact .inr rfl
    | 3,_=>exact .inr rfl
    | 4,_=>exact .inl (.inl rfl)
    | 5,_=>exact .inr rfl
    | 6,_=>exact .inr rfl
    | 7,_=>exact .inr rfl
    | 8,_=>exact .inr rfl
    | 9,_=>exact .inr rfl
    | 10,_=>exact .inr rfl
    | j+11,_=>exact .inr rfl
   with_reducible refine yO rfl ?_
   have HS:=yH (hI.lay (⟨4,4,(.cells #[(.func (.func 135) #[(filV (some ⟨G,0,none⟩) o tk pt want most)] #[]),(.func (.func 136) #[(filV (some ⟨G,0,none⟩) o tk pt want most)] #[])] 148),(.cells #[(.func (.func 135) #[(filV (some ⟨G,0,none⟩) o tk pt want most)] #[]),(.func (.func 136) #[(filV (some ⟨G,0,none⟩) o tk pt want most)] #[])] 148)⟩:Spec) (by simp) (by rfl) (.inl rfl) (by rfl) (fun s' hs' _=>List.mem_singleton.1 hs') (.cells #[(.func (.func 135) #[(filV (some ⟨G,0,none⟩) o tk pt want most)] #[]),(.func (.func 136) #[(filV (some ⟨G,0,none⟩) o tk pt want most)] #[])] 148) rfl);clear hI hC hW hD;go_wp2_with fail;all_goals first|exact HS|exact⟨rfl,HS⟩|rfl
  ·intro g D w' hD hW hC hI;refine⟨g,fun _ _ _=>rfl,?_⟩;with_reducible refine yO rfl ?_
   have hS:=hI.below;have HI:=yH hI;have HC:=yH (aQj (bs:=[(135,most),(136,m2)]) (rv:=(filV (some ⟨G,0,none⟩) o tk pt want most)) (show Blk w' (g 4) (List.map (bndV (filV (some ⟨G,0,none⟩) o tk pt want most)) [(135,most),(136,m2)]).toArray 148 from(hI.full (⟨4,4,(.cells #[(.func (.func 135) #[(filV (some ⟨G,0,none⟩) o tk pt want most)] #[]),(.func (.func 136) #[(filV (some ⟨G,0,none⟩) o tk pt want most)] #[])] 148),(.cells #[(.func (.func 135) #[(filV (some ⟨G,0,none⟩) o tk pt want most)] #[]),(.func (.func 136) #[(filV (some ⟨G,0,none⟩) o tk pt want most)] #[])] 148)⟩:Spec) (by simp) (aBd hC hW (d:=12) (by kernel_rfl)) (aBd hC hW (d:=12) (by kernel_rfl))).2) (by intro b hb;simp only[yI,yJ,or_false]at hb;rcases hb with rfl|rfl;exact HA.out.below hS;exact HBo.out.below hS) (by intro b hb;simp only[yI,yJ,or_false]at hb;rcases hb with rfl|rfl;exact H64a.out;exact H64b.out) (by simp));clear hI hS hC hW hD;go_wp2_with fail;refine HC.out.mono ?_;rintro e w'' ⟨rfl,hb2⟩;exact⟨rfl,HI.out.step hb2 (by rfl)⟩
  ·intro g D w' hD hW hC hI;refine⟨g,fun _ _ _=>rfl,?_⟩;with_reducible refine yO rfl ?_
   have HS:=yH (hI.step yZ (k:=6) (by rfl));clear hI hC hW hD;go_wp2_with fail;all_goals first|exact HS|exact⟨rfl,HS⟩|rfl
  ·intro g D w' hD hW hC hI;refine⟨g,fun _ _ _=>rfl,?_⟩;with_reducible refine yO rfl ?_
   have HS:=yH (hI.step yZ (k:=7) (by rfl));clear hI hC hW hD;go_wp2_with fail;all_goals first|exact HS|exact⟨rfl,HS⟩|rfl
  ·intro g D w' hD hW hC hI;refine⟨g,fun _ _ _=>rfl,?_⟩;with_reducible refine yO rfl ?_
   have hS:=hI.below;have d0_0:=(KX.out.below hS KX.out.lt).cell 0;have d0_1:=(KX.out.below hS KX.out.lt).cell 1;have d0_2:=(KX.out.below hS KX.out.lt).cell 2;have d0_3:=(KX.out.below hS KX.out.lt).cell 3;have d0_4:=(KX.out.below hS KX.out.lt).cell 4;have d0_5:=(KX.out.below hS KX.out.lt).cell 5;have d0_6:=(KX.out.below hS KX.out.lt).cell 6;have d0_7:=(KX.out.below hS KX.out.lt).cell 7;have d0_8:=(KX.out.below hS KX.out.lt).cell 8;have d0_9:=(KX.out.below hS KX.out.lt).cell 9;have d0_10:=(KX.out.below hS KX.out.lt).cell 10;have d0_11:=(KX.out.below hS KX.out.lt).cell 11;simp at d0_0 d0_1 d0_2 d0_3 d0_4 d0_5 d0_6 d0_7 d0_8 d0_9 d0_10 d0_11;have HS:=yH (hI.step yZ (k:=8) (by rfl));clear hI hS hC hW hD;go_wp2_with fail;all_goals first|exact HS|exact⟨rfl,HS⟩|rfl
  ·intro g D w' hD hW hC hI;refine⟨g,fun _ _ _=>rfl,?_⟩;with_reducible refine yO rfl ?_
   have HI:=yH hI;have HC:=yH (fits_any (aBp 1099511627776 [most,m2]) o.nu o.de w' H64l.out HF.out.nu HF.out.de);clear hI hC hW hD;go_wp2_with fail;refine HC.out.mono ?_;rintro e w'' ⟨rfl,hb2⟩;exact⟨rfl,HI.out.step hb2 (by rfl)⟩
  intro g D w' hD hW hC hI;refine⟨g,fun _ _ _=>rfl,?_⟩;with_reducible refine yO rfl ?_
  have HS:=yH (hI.step yZ (k:=10) (by rfl));clear hI hC hW hD;go_wp2_with fail;all_goals first|exact HS|exact⟨rfl,HS⟩|rfl
 intro g D w' hall hI;have B1:=yH (B.out.trans (hI.below.mono B.out.size));clear hall hI;go_wp2_with fail;go_ret;exact⟨rfl,B1.out⟩
theorem fmay_any{w:World}{lp:Option Addr}{e0:Int}{has:Int→Bool}(h:aE4 w lp e0 has)(o:Of)(tk pt want most:Int):
  Calls Tryz.prog 80 #[filV lp o tk pt want most] w (yR w (.bool (!(tk==o.ow) && has tk && has pt && has o.ow))):=by
 have bw:=(Below.refl w.heap.size w).alloc yL (.cells (filC lp o tk pt want most) 146);have C1:=yH (h.has _ bw tk);have C2:=yH (h.has _ bw pt);have C3:=yH (h.has _ bw o.ow);have B:=yH bw;clear bw h;unfold filV;generalize has tk=x at *;generalize has pt=y at *;generalize has o.ow=z at *;have hneq:(tk != o.ow)=!(tk==o.ow):=rfl;obtain⟨q,hq⟩:∃q,(tk==o.ow)=q:=⟨_,rfl⟩;rw[hq]at hneq ⊢;clear hq
 cases q
 ·cases x
  ·go_enter Tryz.func80,Tryz.ntmps80;go_wp2_with fail;refine C1.out.mono ?_;rintro e w1 ⟨rfl,rfl⟩;go_wp2_with fail;go_ret;exact⟨rfl,B.out⟩
  cases y
  ·go_enter Tryz.func80,Tryz.ntmps80;go_wp2_with fail;refine C1.out.mono ?_;rintro e w1 ⟨rfl,rfl⟩;go_wp2_with fail;refine C2.out.mono ?_;rintro e w1 ⟨rfl,rfl⟩;go_wp2_with fail;go_ret;exact⟨rfl,B.out⟩
  go_enter Tryz.func80,Tryz.ntmps80;go_wp2_with fail;refine C1.out.mono ?_;rintro e w1 ⟨rfl,rfl⟩;go_wp2_with fail;refine C2.out.mono ?_;rintro e w1 ⟨rfl,rfl⟩;go_wp2_with fail;refine C3.out.mono ?_;rintro e w1 ⟨rfl,rfl⟩;go_wp2_with fail;go_ret;exact⟨rfl,B.out⟩
 go_enter Tryz.func80,Tryz.ntmps80;go_wp2_with fail;go_ret;exact⟨rfl,B.out⟩
theorem aQm{w:World}{lp bp:Option Addr}{e0 N:Int}{has:Int→Bool}(h:aE4 w lp e0 has)(hn:∀w',Below w.heap.size w w'→Calls Tryz.prog 27 #[.pointer bp] w' fun e w''=>e=.returned (.int .u64 N)∧w'=w''):
  Calls Tryz.prog 138 #[.agg #[.pointer lp,.pointer bp]] w (yR w (.bool (!(e0==2) && !(N==0)))):=by
 have bw:=(Below.refl w.heap.size w).alloc yL (.cells #[.pointer lp,.pointer bp] 31);have C1:=yH (h.open0 _ bw);have C2:=yH (hn _ bw);have B:=yH bw;clear bw h hn;have hneq:(e0 != 2)=!(e0==2):=rfl;obtain⟨q,hq⟩:∃q,(e0==2)=q:=⟨_,rfl⟩;rw[hq]at hneq ⊢;clear hq
 cases q
 ·have hneN:(N != 0)=!(N==0):=rfl;obtain⟨r,hr⟩:∃r,(N==0)=r:=⟨_,rfl⟩;rw[hr]at hneN ⊢;clear hr;go_enter Tryz.func138,Tryz.ntmps138;go_wp2_with fail;refine C1.out.mono ?_;rintro e w1 ⟨rfl,rfl⟩;go_wp2_with fail;refine C2.out.mono ?_;rintro e w1 ⟨rfl,rfl⟩;go_wp2_with fail;go_ret;exact⟨rfl,B.out⟩
 go_enter Tryz.func138,Tryz.ntmps138;go_wp2_with fail;refine C1.out.mono ?_;rintro e w1 ⟨rfl,rfl⟩;go_wp2_with fail;go_ret;exact⟨rfl,B.out⟩
theorem fitN_zero(nu de:Int):fitN 0 nu de=0:=by
 unfold fitN;split
 ·rw[Int.zero_mul,Int.zero_ediv];rfl
 rfl
theorem aGt{n v:Int}{vs:List Int}(h:min n v<1):aBp n (v::vs)=0:=if_pos h
theorem aFm{n v:Int}{vs:List Int}(h:¬min n v<1):aBp n (v::vs)=aBp (min n v) vs:=if_neg h
theorem least4{a b c d:Int}(hb:1≤b∧b≤1099511627776)(hc:0≤c)(hd:0≤d):aBp 1099511627776 [a,b,c,d]=if a<1 then 0 else min (min (min a b) c) d:=by
 by_cases h1:min 1099511627776 a<1
 ·rw[aGt h1,if_pos (by omega)]
 rw[aFm h1,if_neg (by omega)];rw[aFm (by omega)]
 by_cases h3:min (min (min 1099511627776 a) b) c<1
 ·rw[aGt h3];omega
 rw[aFm h3]
 by_cases h4:min (min (min (min 1099511627776 a) b) c) d<1
 ·rw[aGt h4];omega
 rw[aFm h4,aBp];omega
theorem least2{a b:Int}(hb:0≤b):aBp 1099511627776 [a,b]=if a<1 then 0 else min (min a 1099511627776) b:=by
 by_cases h1:min 1099511627776 a<1
 ·rw[aGt h1,if_pos (by omega)]
 rw[aFm h1,if_neg (by omega)]
 by_cases h3:min (min 1099511627776 a) b<1
 ·rw[aGt h3];omega
 rw[aFm h3,aBp];omega
theorem least_may{o:Of}{ps:List Int}{tk pt want most m1 m2:Int}(hr:o.ow≠tk∧o.ow∈ps∧tk∈ps∧pt∈ps)(hl:1≤o.lf∧o.lf≤1099511627776)(h1:0≤m1)(h2:0≤m2):
  aBp 1099511627776 [want,o.lf,(if pt=o.ow then 1099511627776 else m1),fitN (aBp 1099511627776 [most,m2]) o.nu o.de]=mayO o ps tk pt want most m1 m2:=by
 obtain⟨r1,r2,r3,r4⟩:=hr;rw[least4 hl (by split <;> omega) fitN_nn,least2 h2];unfold mayO
 by_cases hw:want<1
 ·rw[if_pos hw,if_pos (show o.ow=tk∨o.ow∉ps∨tk∉ps∨pt∉ps∨want<1∨most<1 from .inr (.inr (.inr (.inr (.inl hw)))))]
 rw[if_neg hw]
 by_cases hm:most<1
 ·rw[if_pos hm,if_pos (show o.ow=tk∨o.ow∉ps∨tk∉ps∨pt∉ps∨want<1∨most<1 from .inr (.inr (.inr (.inr (.inr hm))))),fitN_zero]
  by_cases hp:pt=o.ow
  ·rw[if_pos hp];omega
  rw[if_neg hp];omega
 rw[if_neg hm,if_neg (show ¬(o.ow=tk∨o.ow∉ps∨tk∉ps∨pt∉ps∨want<1∨most<1)from fun h=>by
  rcases h with h|h|h|h|h|h
  ·exact r1 h
  ·exact h r2
  ·exact h r3
  ·exact h r4
  ·exact hw h
  exact hm h)]
 by_cases hp:pt=o.ow
 ·rw[if_pos hp,if_pos hp];omega
 rw[if_neg hp,if_neg hp]
theorem hmay_none{w:World}{lp bp:Option Addr}{s:Int}(hf:∀w',Below w.heap.size w w'→Calls Tryz.prog 22 #[.pointer bp,.int .u64 s] w' fun e w''=>e=.returned (.tuple #[noOf.val,.bool false])∧Below w'.heap.size w' w'')(tk pt want most:Int):
  Calls Tryz.prog 32 #[.agg #[.pointer lp,.pointer bp],.int .u64 s,.int .u8 tk,.int .u8 pt,.int .i64 want,.int .i64 most] w (yR w (.int .i64 0)):=by
 have bw:=(Below.refl w.heap.size w).alloc yL (.cells #[.pointer lp,.pointer bp] 31);have CF:=yH (hf _ bw);have KX:=yH (pAA w #[.pointer lp,.pointer bp] 31);have B0:=yH bw;clear bw hf;unfold noOf Of.val at CF;dsimp only at CF;go_enter Tryz.func32,Tryz.ntmps32;go_wp2_with fail;generalize w.alloc (.cells #[.pointer lp,.pointer bp] 31)=W at *;refine CF.out.mono ?_;rintro e w1 ⟨rfl,b1⟩;have KX1:=yB KX b1;have B1:=yT B0 b1;clear b1 KX B0 CF;have e0:=KX1.out.cell 0;have e1:=KX1.out.cell 1;have kx:=KX1.out.lt;simp at e0 e1;go_wp2_with fail;go_ret;refine⟨rfl,B1.out.trans ?_⟩;exact((Below.alloc ((Below.refl w1.heap.size w1).alloc yL _) (by simp) _)).mono B1.out.size
theorem aOl(HM:aEf):aE2:=by
 intro w base G M gb ps ls l N vb hL hI hP hJ s tk pt want most m1 m2 hs ht hto hw hmo hG
 cases hf:aBg l s with
 | none=>
  have e:mayV l ps s tk pt want most m1 m2=0:=by unfold mayV;rw[hf]
  rw[e];refine hmay_none (fun w' k=>?_) tk pt want most;have:=aIo (hP.below k) hJ.n1 s;rw[hf]at this;exact this
 | some o=>
  have bw:=(Below.refl w.heap.size w).alloc yL (.cells #[.pointer (some ⟨G,0,none⟩),.pointer (some ⟨gb,0,none⟩)] 31);have CF:=yH (aIo (hP.below bw) hJ.n1 s);rw[hf]at CF;have KX:=yH (pAA w #[.pointer (some ⟨G,0,none⟩),.pointer (some ⟨gb,0,none⟩)] 31);have B0:=yH bw;have L0:=yH (hL.below bw);have II:=yH hI;have HGo:=yH (hG o hf);have hmem:=(aCx hf).1;have HF:=yH (hJ.fits hmem);have MY:=yH (hJ.may o hmem);obtain⟨R,hR⟩:∃R,mayV l ps s tk pt want most m1 m2=R:=⟨_,rfl⟩;rw[hR];have EV:Hid (R=mayO o ps tk pt want most m1 m2):=yH (by rw[←hR];unfold mayV;rw[hf]);clear hR;have HT:=yH ht;have HTo:=yH hto;have HW:=yH hw;have HMo:=yH hmo;have HMP:=yH HM;clear bw hL hI hP hJ hs ht hto hw hmo hG hf hmem HM;unfold aGn Of.val at CF;dsimp only at CF;go_enter Tryz.func32,Tryz.ntmps32;go_wp2_with fail;generalize w.alloc (.cells #[.pointer (some ⟨G,0,none⟩),.pointer (some ⟨gb,0,none⟩)] 31)=W at *;refine CF.out.mono ?_;rintro e w1 ⟨rfl,b1⟩;have KX1:=yB KX b1;have B1:=yT B0 b1;have L1:=yH (L0.out.below b1);clear b1 KX B0 CF L0;have e0:=KX1.out.cell 0;have e1:=KX1.out.cell 1;have kx:=KX1.out.lt;simp at e0 e1;have ba:=(Below.refl w1.heap.size w1).alloc yL (.cells #[.int .u64 o.se,.int .u8 o.ow,.int .u8 o.sl,.int .u8 o.bu,.int .i64 o.lf,.int .i64 o.nu,.int .i64 o.de] 48);have KF0:=yH (pAC (w1.alloc (.cells #[.int .u64 o.se,.int .u8 o.ow,.int .u8 o.sl,.int .u8 o.bu,.int .i64 o.lf,.int .i64 o.nu,.int .i64 o.de] 48)) (filC (some ⟨G,0,none⟩) o tk pt want most) 146 (g:=w1.heap.size+1) (by simp));have bb:=ba.alloc (by simp) (.cells (filC (some ⟨G,0,none⟩) o tk pt want most) 146);have L2:=yH (L1.out.below bb);have B2:=yT B1 bb;have CM:=yH (fmay_any (aHq L2.out II.out) o tk pt want most);clear ba bb L1;go_wp2_with fail;generalize (w1.alloc (.cells #[.int .u64 o.se,.int .u8 o.ow,.int .u8 o.sl,.int .u8 o.bu,.int .i64 o.lf,.int .i64 o.nu,.int .i64 o.de] 48)).alloc (.cells #[.pointer (some ⟨G,0,none⟩),.int .u64 o.se,.int .u8 o.ow,.int .u8 o.sl,.int .u8 o.bu,.int .i64 o.lf,.int .i64 o.nu,.int .i64 o.de,.int .u8 tk,.int .u8 pt,.int .i64 want,.int .i64 most] 146)=W2 at *;clear e0 e1 kx;obtain⟨r,hr⟩:∃r,(!(tk==o.ow) && decide (tk∈ps) && decide (pt∈ps) && decide (o.ow∈ps))=r:=⟨_,rfl⟩;rw[hr]at CM
  cases r
  ·have EZ:Hid (R=0):=yH (by
    rw[EV.out];unfold mayO;rw[if_pos]
    by_cases c1:o.ow=tk
    ·exact .inl c1
    by_cases c2:o.ow∈ps
    ·by_cases c3:tk∈ps
     ·by_cases c4:pt∈ps
      ·have c5:¬tk=o.ow:=fun h=>c1 h.symm
       simp[c2,c3,c4,c5]at hr
      exact .inr (.inr (.inr (.inl c4)))
     exact .inr (.inr (.inl c3))
    exact .inr (.inl c2))
   clear hr EV;refine CM.out.mono ?_;rintro e w3 ⟨rfl,b3⟩;have B3:=yT B2 b3;clear b3;go_wp2_with fail;go_ret;exact⟨by rw[EZ.out];rfl,B3.out⟩
  have hok:o.ow≠tk∧o.ow∈ps∧tk∈ps∧pt∈ps:=by
   simp only[Bool.and_eq_true,Bool.not_eq_true',decide_eq_true_eq,beq_eq_false_iff_ne,ne_eq]at hr;obtain⟨⟨⟨h1,h2⟩,h3⟩,h4⟩:=hr;exact⟨fun h=>h1 h.symm,h4,h2,h3⟩
  have hb:=HGo.out.bd II.out;have EM:=yH (EV.out.trans (least_may (want:=want) (most:=most) hok MY.out.2.2.2.2.1 hb.1.1 hb.2.1).symm);have HS1:Hid (In64 (if pt=o.ow then 1099511627776 else m1)):=yH (by split <;> exact⟨by omega,by omega⟩)
  have HFt:Hid (In64 (fitN (aBp 1099511627776 [most,m2]) o.nu o.de)):=yH (by
   have h0:=fitN_nn (g:=aBp 1099511627776 [most,m2]) (nu:=o.nu) (de:=o.de);refine⟨by omega,?_⟩;unfold fitN;split <;> omega)
  clear hr EV hok hb;refine CM.out.mono ?_;rintro e w3 ⟨rfl,b3⟩;have KF3:=yB KF0 b3;have L3:=yH (L2.out.below b3);have B3:=yT B2 b3;clear b3 KF0 L2 B2 CM;have d0:=KF3.out.cell 0;have d1:=KF3.out.cell 1;have d2:=KF3.out.cell 2;have d3:=KF3.out.cell 3;have d4:=KF3.out.cell 4;have d5:=KF3.out.cell 5;have d6:=KF3.out.cell 6;have d7:=KF3.out.cell 7;have d8:=KF3.out.cell 8;have d9:=KF3.out.cell 9;have d10:=KF3.out.cell 10;have d11:=KF3.out.cell 11;simp at d0 d1 d2 d3 d4 d5 d6 d7 d8 d9 d10 d11;have HB1:Hid (Bnd w3 (filV (some ⟨G,0,none⟩) o tk pt want most) (82,want)):=yH ⟨enters_of Tryz.func82 (by kernel_rfl) rfl,fun w' k=>aSr _ o tk pt want most w'⟩;have HB2:Hid (Bnd w3 (filV (some ⟨G,0,none⟩) o tk pt want most) (83,o.lf)):=yH ⟨enters_of Tryz.func83 (by kernel_rfl) rfl,fun w' k=>fleft_any _ o tk pt want most w'⟩;have HB3:Hid (Bnd w3 (filV (some ⟨G,0,none⟩) o tk pt want most) (84,if pt=o.ow then 1099511627776 else m1)):=yH ⟨enters_of Tryz.func84 (by kernel_rfl) rfl,fun w' k=>fsold_any HMP.out (L3.out.below k) II.out HF.out tk pt want most HTo.out HGo.out⟩;have HB4:Hid (Bnd w3 (filV (some ⟨G,0,none⟩) o tk pt want most) (85,fitN (aBp 1099511627776 [most,m2]) o.nu o.de)):=yH ⟨enters_of Tryz.func85 (by kernel_rfl) rfl,fun w' k=>ffits_any HMP.out (L3.out.below k) II.out HF.out tk pt want most HT.out HMo.out HGo.out⟩;have bk:=(Below.refl w3.heap.size w3).alloc yL (.cells #[.func (.func 82) #[filV (some ⟨G,0,none⟩) o tk pt want most] #[],.func (.func 83) #[filV (some ⟨G,0,none⟩) o tk pt want most] #[],.func (.func 84) #[filV (some ⟨G,0,none⟩) o tk pt want most] #[],.func (.func 85) #[filV (some ⟨G,0,none⟩) o tk pt want most] #[]] 148);have kk:=pAA w3 #[.func (.func 82) #[filV (some ⟨G,0,none⟩) o tk pt want most] #[],.func (.func 83) #[filV (some ⟨G,0,none⟩) o tk pt want most] #[],.func (.func 84) #[filV (some ⟨G,0,none⟩) o tk pt want most] #[],.func (.func 85) #[filV (some ⟨G,0,none⟩) o tk pt want most] #[]] 148
  have CL:=yH (aQj (bs:=[(82,want),(83,o.lf),(84,if pt=o.ow then 1099511627776 else m1),(85,fitN (aBp 1099511627776 [most,m2]) o.nu o.de)]) (rv:=filV (some ⟨G,0,none⟩) o tk pt want most) kk
   (by intro b hb;simp only[yI,yJ,or_false]at hb;rcases hb with rfl|rfl|rfl|rfl;exact HB1.out.below bk;exact HB2.out.below bk;exact HB3.out.below bk;exact HB4.out.below bk)
   (by intro b hb;simp only[yI,yJ,or_false]at hb;rcases hb with rfl|rfl|rfl|rfl;exact HW.out;exact HF.out.lf;exact HS1.out;exact HFt.out) (by simp))
  have B4:=yT B3 bk;rw[show List.map (fun x:Nat×Int=>x.2) [(82,want),(83,o.lf),(84,if pt=o.ow then 1099511627776 else m1),(85,fitN (aBp 1099511627776 [most,m2]) o.nu o.de)]=[want,o.lf,if pt=o.ow then 1099511627776 else m1,fitN (aBp 1099511627776 [most,m2]) o.nu o.de]from rfl,←EM.out]at CL;clear bk kk HB1 HB2 HB3 HB4;go_wp2_with fail;refine CL.out.mono ?_;rintro e w4 ⟨rfl,b4⟩;have B5:=yT B4 b4;clear b4 d0 d1 d2 d3 d4 d5 d6 d7 d8 d9 d10 d11;go_wp2_with fail;go_ret;exact⟨rfl,B5.out⟩
theorem aFn{w:World}{g h:Nat}{cs ds:Array Value}{t u:TypeId}(a:Blk w g cs t)(b:Blk w h ds u)(hn:t≠u):g≠h:=by
 rintro rfl;have e:=a.out;rw[b.out]at e;simp only[Option.some.injEq,Obj.cells.injEq]at e;exact hn e.2.1.symm
theorem RefL.apart{w:World}{base r G M:Nat}{ps ps':List Int}{ls ls':List Ln}{vp vl:Value}(hL:LedM w G M ps ls)(hR:RefL w base r ps' ls' vp vl):
  (r≠G∧r≠M)∧(∀b,vp.ownBlock=some b→b≠G∧b≠M∧b≠r)∧(∀b,vl.ownBlock=some b→b≠G∧b≠M∧b≠r):=by
 refine⟨⟨aFn hR.blk hL.blk (by decide),fun e=>hL.map.ne_blk hR.blk e.symm⟩,fun b hb=>?_,fun b hb=>?_⟩
 ·obtain⟨_,_,cur,hc⟩:=aAe hR.p hb;have hbk:Blk w b cur 43:=hc;exact⟨aFn hbk hL.blk (by decide),fun e=>hL.map.ne_blk hbk e.symm,aFn hbk hR.blk (by decide)⟩
 obtain⟨_,_,cur,hc⟩:=aAe hR.l hb;have hbk:Blk w b cur 115:=hc;exact⟨aFn hbk hL.blk (by decide),fun e=>hL.map.ne_blk hbk e.symm,aFn hbk hR.blk (by decide)⟩
def Trio(G M r:Nat)(b:Nat):Prop:=b=G∨b=M∨b=r
structure Both(W:World)(G M base r X:Nat)(xs:Array Value)(ps P:List Int)(ls L:List Ln)(c1 c2:Nat)(D:Nat→Bool)(w:World):Prop where
 keep:Keep (Trio G M r) W w
 x:Blk w X xs 99
 led:LedM w G M (cond (D c1) P ps) (cond (D c1) L ls)
 ref:∃vp vl,RefL w base r (cond (D c2) P ps) (cond (D c2) L ls) vp vl
theorem Both.two{W w w':World}{G M base r X:Nat}{xs:Array Value}{ps P:List Int}{ls L:List Ln}{c1 c2:Nat}{D:Nat→Bool}(h:Both W G M base r X xs ps P ls L c1 c2 D w)(hc:c1≠c2)(hl:∃vp vl,RefL w' base r P L vp vl)(hk:Keep (·=r) w w'):Both W G M base r X xs ps P ls L c1 c2 (ins c2 D) w':=by
 obtain⟨vp,vl,hr⟩:=h.ref;obtain⟨⟨a1,a2⟩,a3,a4⟩:=RefL.apart h.led hr;have e1:ins c2 D c1=D c1:=by simp[ins,hc]
 have e2:ins c2 D c2=true:=by simp[ins]
 refine⟨h.keep.trans (hk.mono fun b _ hb=>.inr (.inr hb)),h.x.keep hk (fun e=>aFn h.x hr.blk (by decide) e),?_,by rw[e2];exact hl⟩;rw[e1];exact h.led.keep hk (fun e=>a1 e.symm) (fun e=>a2 e.symm)
theorem PB.ne_map{w:World}{base g G M:Nat}{ps:List Int}{ls:List Ln}{l:List Of}{N:Int}{vl:Value}(h:PB w base g l N vl)(k:LedM w G M ps ls):(¬g=M∧∀b,vl.ownBlock=some b→¬b=M)∧¬Foot g vl G∧¬Foot g vl M:=by
 have h1:¬g=M:=fun e=>k.map.ne_blk h.blk e.symm
 have h2:∀b,vl.ownBlock=some b→¬b=M:=fun b hb e=>by
  obtain⟨_,_,cur,hc⟩:=aAe h.row hb;have hB:Blk w b cur _:=hc;exact k.map.ne_blk hB e.symm
 have h3:¬G=g:=fun e=>by have:=aFn k.blk h.blk (by decide);exact this e
 have h4:¬vl.ownBlock=some G:=fun e=>aAi h.row k.blk (by decide) G e rfl
 exact⟨⟨h1,h2⟩,fun e=>e.elim h3 h4,fun e=>e.elim (fun q=>h1 q.symm) (fun q=>h2 M q rfl)⟩
theorem Keep.freshRow{S:Nat→Prop}{a w:World}(h:Keep S a w){g:Nat}(hg:a.heap.size≤g)(cs:Array Value):Keep S a (w.setRow g cs):=
 have k:=aAf (w:=w) g cs
 ⟨k.os.trans h.os,k.tape.trans h.tape,k.output.trans h.output,Nat.le_trans h.size k.size,fun i hi hs=>(k.block i (yM hi h.size) (by omega)).trans (h.block i hi hs)⟩
theorem hdo_void{w:World}{lp bp:Option Addr}{e0 N:Int}{has:Int→Bool}(h:aE4 w lp e0 has)(hn:∀w',Below w.heap.size w w'→Calls Tryz.prog 27 #[.pointer bp] w' fun e w''=>e=.returned (.int .u64 N)∧w'=w'')(he:e0=2∨N=0)(s tk pt n:Int):
  Calls Tryz.prog 87 #[.agg #[.pointer lp,.pointer bp],.int .u64 s,.int .u8 tk,.int .u8 pt,.int .i64 n] w (yR w (.tuple #[aF3,.int .i64 2])):=by
 have b1:=(Below.refl w.heap.size w).alloc yL (.cells #[.pointer lp,.pointer bp] 31);have k1:=pAA w #[.pointer lp,.pointer bp] 31;generalize hW1:w.alloc (.cells #[.pointer lp,.pointer bp] 31)=W1 at *;have b2:=(Below.refl W1.heap.size W1).alloc yL (.cells #[.int .u64 0,.int .u8 0,.int .u8 0,.int .i64 0,.int .i64 0] 73);have k2:=pAA W1 #[.int .u64 0,.int .u8 0,.int .u8 0,.int .i64 0,.int .i64 0] 73;generalize hW2:W1.alloc (.cells #[.int .u64 0,.int .u8 0,.int .u8 0,.int .i64 0,.int .i64 0] 73)=W2 at *;have HW1:=yH hW1;have HW2:=yH hW2;have hg1:W1.heap.size=w.heap.size+1:=by rw[←hW1];simp
 rw[hg1]at k2;have KX:=yH (k1.below b2 k1.lt);have KF:=yH k2;have B2:=yH (b1.trans (b2.mono b1.size));have CM:=yH (aQm (h.below B2.out) (fun w' k=>hn w' (andB B2.out k)));rw[show(!(e0==2) && !(N==0))=false by rcases he with rfl|rfl <;> simp]at CM;clear h hn he b1 k1 b2 k2 hW1 hW2 hg1;go_enter Tryz.func87,Tryz.ntmps87
 go_upto_region 1 with fail
 rw[HW1.out,HW2.out];have e0:=KX.out.cell 0;have e1:=KX.out.cell 1;simp at e0 e1;go_wp2_with fail;refine CM.out.mono ?_;rintro e w1 ⟨rfl,b1⟩;have KF1:=yB KF b1;have B1:=yT B2 b1;clear b1 e0 e1 KX KF B2 CM;go_wp2_with (refine aAb rfl 73 (.tmp 10) (.tmp 20) rfl (w.heap.size+1) #[.int .u64 0,.int .u8 0,.int .u8 0,.int .i64 0,.int .i64 0] rfl rfl 73 _ KF1.out.out (by kernel_rfl) rfl (by simp[Value.oneCell']) ?_);refine bodyPost_ret (v:=.tuple #[aF3,.int .i64 2]) (aAh rfl _ _ (w.heap.size+1) 73 #[.int .u64 0,.int .u8 0,.int .u8 0,.int .i64 0,.int .i64 0] _ _ rfl (setRow_heap _ (w.heap.size+1) _ _ _ (0,0) KF1.out.out) Tryz.underlying73 rfl (by kernel_rfl) rfl) rfl ⟨rfl,below_setRow B1.out (by omega) _⟩
theorem hdo_any(HR:aGd)(HMP:aEf):aGq:=by
 intro w base G M gb ps ls l N vb hL hI hP hJ s tk pt n m1 m2 hs ht hto hn hG;have b1:=(Below.refl w.heap.size w).alloc yL (.cells #[.pointer (some ⟨G,0,none⟩),.pointer (some ⟨gb,0,none⟩)] 31);have k1:=pAA w #[.pointer (some ⟨G,0,none⟩),.pointer (some ⟨gb,0,none⟩)] 31;generalize hW1:w.alloc (.cells #[.pointer (some ⟨G,0,none⟩),.pointer (some ⟨gb,0,none⟩)] 31)=W1 at *;have b2:=(Below.refl W1.heap.size W1).alloc yL (.cells #[.int .u64 0,.int .u8 0,.int .u8 0,.int .i64 0,.int .i64 0] 73);have k2:=pAA W1 #[.int .u64 0,.int .u8 0,.int .u8 0,.int .i64 0,.int .i64 0] 73;generalize hW2:W1.alloc (.cells #[.int .u64 0,.int .u8 0,.int .u8 0,.int .i64 0,.int .i64 0] 73)=W2 at *;have HW1:=yH hW1;have HW2:=yH hW2;have hg1:W1.heap.size=w.heap.size+1:=by rw[←hW1];simp
 rw[hg1]at k2;have KX:=yH (k1.below b2 k1.lt);have KF:=yH k2;have B2:=yH (b1.trans (b2.mono b1.size));have L0:=yH ((hL.below b1).below b2);have P0:=yH ((hP.below b1).below b2);have II:=yH hI;have JJ:=yH hJ;have HT:=yH ht;have HTo:=yH hto;have HN:=yH hn;have HGo:=yH hG;have HRo:=yH HR;have hG1:=hL.blk.lt;have hM1:=hL.map.lt;have hb1:=hP.blk.lt;have HGL:=yH hG1;have HML:=yH hM1;have HBL:=yH hb1;have HFO:Hid (∀b,Foot gb vb b→b<w.heap.size):=yH (fun b hb=>(hP.lt hb).2);have CMd:=yH (aQm (N:=N) (aHq L0.out II.out) (fun w' k=>aIm (P0.out.below k).blk));rw[show(!((1:Int)==2) && !(N==0))=true by have:=hJ.n1;simp;omega]at CMd;have CM:=yH (fun w' (k:Below W2.heap.size W2 w')=>aOl HMP (L0.out.below k) hI (P0.out.below k) hJ s tk pt n 1099511627776 m1 m2 hs ht hto hn ⟨by omega,by omega⟩ hG);clear b1 k1 b2 k2 hW1 hW2 hL hI hP hJ hs ht hto hn hG hg1 hG1 hM1 hb1 HR HMP;go_enter Tryz.func87,Tryz.ntmps87
 go_upto_region 1 with fail
 rw[HW1.out,HW2.out];have e0:=KX.out.cell 0;have e1:=KX.out.cell 1;simp at e0 e1;go_wp2_with fail;refine CMd.out.mono ?_;rintro e w0 ⟨rfl,b0⟩;have CM0:=yH (CM.out w0 b0);have KX0:=yB KX b0;have KF0:=yB KF b0;have L1:=yH (L0.out.below b0);have P1:=yH (P0.out.below b0);have B0:=yT B2 b0;clear b0 e0 e1 KX KF B2 CMd CM L0 P0;have e0:=KX0.out.cell 0;have e1:=KX0.out.cell 1;simp at e0 e1
 by_cases h1:n<1
 ·have q1:decide (n<1)=true:=by simpa using h1
  have NO:Hid (¬doOk l ps s tk pt n m1 m2):=yH (fun h=>by have:=h.1;omega);clear h1;go_wp2_with (refine aAb rfl 73 (.tmp 10) (.tmp 34) rfl (w.heap.size+1) #[.int .u64 0,.int .u8 0,.int .u8 0,.int .i64 0,.int .i64 0] rfl rfl 73 _ KF0.out.out (by kernel_rfl) rfl (by simp[Value.oneCell']) ?_);refine bodyPost_ret (v:=.tuple #[aF3,.int .i64 1]) (aAh rfl _ _ (w.heap.size+1) 73 #[.int .u64 0,.int .u8 0,.int .u8 0,.int .i64 0,.int .i64 0] _ _ rfl (setRow_heap _ (w.heap.size+1) _ _ _ (0,0) KF0.out.out) Tryz.underlying73 rfl (by kernel_rfl) rfl) rfl (.inl ⟨NO.out,rfl,below_setRow B0.out (by omega) _⟩)
 have q1:decide (n<1)=false:=by simpa using h1
 go_wp2_with fail;refine CM0.out.mono ?_;rintro e w1 ⟨rfl,b1⟩;have KX1:=yB KX0 b1;have KF1:=yB KF0 b1;have L2:=yH (L1.out.below b1);have P2:=yH (P1.out.below b1);have B1:=yT B0 b1;clear b1 e0 e1 KX0 KF0 L1 P1 B0 CM0;have e0:=KX1.out.cell 0;have e1:=KX1.out.cell 1;simp at e0 e1
 by_cases h2:n≤mayV l ps s tk pt n 1099511627776 m1 m2
 ·have q2:decide (mayV l ps s tk pt n 1099511627776 m1 m2<n)=false:=by simpa using h2
  have hOK:doOk l ps s tk pt n m1 m2:=⟨by omega,h2⟩;obtain⟨o,hf,⟨c1,c2,c3,c4⟩,h3,h4,h5⟩:=hOK.facts;have hGo:=(HGo.out o hf).bd II.out;have hmem:=(aCx hf).1;have hmay:=JJ.out.may o hmem;have FT:=yH (JJ.out.fits hmem);obtain⟨_,_,_,_,_,hmy⟩:=hmay;obtain⟨x,hx⟩:∃x,upN (n*o.nu) o.de=x:=⟨_,rfl⟩;obtain⟨u1,u2,u3⟩:=aOa hmy (g:=min 1099511627776 m2) (by omega) (by omega) (by omega) h5;rw[hx]at u1 u2 u3;have CU:=yH (fun w=>rup_rat n o.nu o.de w HN.out FT.out.nu FT.out.de);rw[u1]at CU;have HX:=yH hx;have HOK:=yH hOK;have HF:=yH hf;have CF:=yH (aIo P2.out JJ.out.n1 s);rw[hf]at CF;dsimp only[aGn,Of.val]at CF;have hx64:Hid (In64 x):=yH ⟨by omega,by omega⟩;clear hOK hGo hmem hmy u1 u2 u3 hx hf h5 h4 h3 c1 c2 c3 c4;generalize mayV l ps s tk pt n 1099511627776 m1 m2=mm at *;clear h2;go_wp2_with fail;refine CF.out.mono ?_;rintro e w2 ⟨rfl,b2⟩;have bo:=(Below.refl w2.heap.size w2).alloc yL (.cells #[.int .u64 o.se,.int .u8 o.ow,.int .u8 o.sl,.int .u8 o.bu,.int .i64 o.lf,.int .i64 o.nu,.int .i64 o.de] 48);have KO:=yH (pAA w2 #[.int .u64 o.se,.int .u8 o.ow,.int .u8 o.sl,.int .u8 o.bu,.int .i64 o.lf,.int .i64 o.nu,.int .i64 o.de] 48);have b3:=b2.trans (bo.mono b2.size);have KX2:=yB KX1 b3;have KF2:=yB KF1 b3;have L3:=yH (L2.out.below b3);have P3:=yH (P2.out.below b3);have B3:=yT B1 b3;have HSZ:Hid (w.heap.size≤w2.heap.size):=yH (B1.out.trans (b2.mono B1.out.size)).size;clear b2 b3 bo e0 e1 KX1 KF1 L2 P2 B1 CF;have e0:=KX2.out.cell 0;have e1:=KX2.out.cell 1;simp at e0 e1;have d0:=KO.out.cell 0;have d1:=KO.out.cell 1;have d2:=KO.out.cell 2;have d3:=KO.out.cell 3;have d4:=KO.out.cell 4;have d5:=KO.out.cell 5;have d6:=KO.out.cell 6;simp at d0 d1 d2 d3 d4 d5 d6;go_wp2_with fail;refine(CU.out _).mono ?_;rintro e w3 ⟨rfl,b3⟩;have KX3:=yB KX2 b3;have KO3:=yB KO b3;have KF3:=yB KF2 b3;have L4:=yH (L3.out.below b3);have P4:=yH (P3.out.below b3);have B4:=yT B3 b3;clear b3 CU KX2 KO KF2 L3 P3 B3;clear e0 e1 d0 d1 d2 d3 d4 d5 d6;have e0:=KX3.out.cell 0;have e1:=KX3.out.cell 1;simp at e0 e1;have d0:=KO3.out.cell 0;have d1:=KO3.out.cell 1;have d2:=KO3.out.cell 2;have d3:=KO3.out.cell 3;have d4:=KO3.out.cell 4;have d5:=KO3.out.cell 5;have d6:=KO3.out.cell 6;simp at d0 d1 d2 d3 d4 d5 d6
  by_cases hp:pt=o.ow
  ·have q3:(pt != o.ow)=false:=by simpa using hp
   have HP:=yH hp;clear hp;have BK:Hid (Keep (fun k=>k=G∨k=M∨Foot gb vb k) w w3):=yH (pAE B4.out);clear B4;have KXA:=KX3;have KFA:=KF3;have LA:=L4;have PA:=P4;clear KX3 KF3 KO3 L4 P4;obtain⟨τ,hτ⟩:=aCk (aAx II.out o.bu) tk o.ow x;have HTAU:=yH hτ;have CP:=yH (aN0 HRo.out LA.out II.out HT.out FT.out.ow FT.out.bu hx64.out hτ);clear hτ;go_wp2_with fail;refine CP.out.mono ?_;rintro e w6 ⟨rfl,r6,k6⟩;have AP:=(PA.out.ne_map LA.out).1;have KX6:=yH (KXA.out.keep k6 (by have:=HML.out;omega));have KF6:=yH (KFA.out.keep k6 (by have:=HML.out;omega));have P6:=yH (PA.out.keep k6 AP.1 AP.2);have B6:=yH (BK.out.trans (k6.mono (fun k _ h=>Or.inr (Or.inl h))));have L6:=yH r6;clear CP r6 k6 AP KXA KFA PA LA BK;clear e0 e1 d0 d1 d2 d3 d4 d5 d6;have e0:=KX6.out.cell 0;have e1:=KX6.out.cell 1;simp at e0 e1;have CK:=yH (aP1 P6.out JJ.out s n);go_wp2_with fail;refine CK.out.mono ?_;rintro e w7 ⟨rfl,vb7,r7,k7,mv7⟩;have AP:=(P6.out.ne_map L6.out).2;have hgz:¬Foot gb vb (w.heap.size+1):=fun h=>by have:=HFO.out _ h;omega
   have KF7:=yH (KF6.out.keep k7 hgz);have L7:=yH (L6.out.keep k7 AP.1 AP.2);have B7:=yH (B6.out.trans (k7.mono (fun k _ h=>Or.inr (Or.inr h))));have P7:=yH r7;have MV:=yH (mv7.of_le B6.out.size);clear CK r7 k7 mv7 AP hgz KX6 KF6 P6 L6 B6;clear e0 e1;go_wp2_with (refine aAb rfl 73 (.tmp 10) (.tmp 81) rfl (w.heap.size+1) #[.int .u64 s,.int .u8 tk,.int .u8 pt,.int .i64 n,.int .i64 x] rfl rfl 73 _ KF7.out.out (by kernel_rfl) rfl (by simp[Value.oneCell']) ?_);refine bodyPost_ret (v:=.tuple #[.agg #[.int .u64 s,.int .u8 tk,.int .u8 pt,.int .i64 n,.int .i64 x],.int .i64 0]) (aAh rfl _ _ (w.heap.size+1) 73 #[.int .u64 s,.int .u8 tk,.int .u8 pt,.int .i64 n,.int .i64 x] _ _ rfl (setRow_heap _ (w.heap.size+1) _ _ _ (0,0) KF7.out.out) Tryz.underlying73 rfl (by kernel_rfl) rfl) rfl (.inr ⟨HOK.out,o,x,_,vb7,HF.out,HX.out.symm,⟨ls,τ,(.inl ⟨HP.out,rfl⟩),HTAU.out,rfl⟩,rfl,?_,?_,B7.out.freshRow (by omega) _,MV.out⟩)
   ·exact L7.out.keep (aAf _ _) (by have:=HGL.out;omega) (by have:=HML.out;omega)
   refine P7.out.keep (aAf _ _) (by have:=HBL.out;omega) (fun b hb h=>?_);subst h;exact aAi P7.out.row KF7.out (by decide) _ hb rfl
  have q3:(pt != o.ow)=true:=by simpa using hp
  have HP:=yH hp;clear hp;obtain⟨σ,hσ⟩:=aCk (aAx II.out o.sl) o.ow pt n;have HSG:=yH hσ;have CP:=yH (aN0 HRo.out L4.out II.out FT.out.ow HTo.out FT.out.sl HN.out hσ);clear hσ;go_wp2_with fail;refine CP.out.mono ?_;rintro e w5 ⟨rfl,r5,k5⟩;have AP:=(P4.out.ne_map L4.out).1;have KXA:=yH (KX3.out.keep k5 (by have:=HML.out;omega));have KFA:=yH (KF3.out.keep k5 (by have:=HML.out;omega));have KOA:=yH (KO3.out.keep k5 (by have:=HML.out;have:=HSZ.out;omega));have PA:=yH (P4.out.keep k5 AP.1 AP.2);have BK:Hid (Keep (fun k=>k=G∨k=M∨Foot gb vb k) w w5):=yH ((pAE B4.out).trans (k5.mono (fun k _ h=>Or.inr (Or.inl h))));have LA:=yH r5;have IA:=yH (aIi II.out o.ow pt o.sl n σ);clear CP r5 k5 AP KX3 KF3 KO3 P4 L4 B4;clear e0 e1 d0 d1 d2 d3 d4 d5 d6;have RT:Hid (∃a,aAk (aB1 ps ls o.sl) 4398046511104 o.ow pt n a∧payL ps ls o.ow pt o.sl n σ=payL ps ls o.ow pt o.sl n a):=yH ⟨σ,HSG.out,rfl⟩;clear HSG;generalize payL ps ls o.ow pt o.sl n σ=ls4 at *;have e0:=KXA.out.cell 0;have e1:=KXA.out.cell 1;simp at e0 e1;have d0:=KOA.out.cell 0;have d1:=KOA.out.cell 1;have d2:=KOA.out.cell 2;have d3:=KOA.out.cell 3;have d4:=KOA.out.cell 4;have d5:=KOA.out.cell 5;have d6:=KOA.out.cell 6;simp at d0 d1 d2 d3 d4 d5 d6;obtain⟨τ,hτ⟩:=aCk (aAx IA.out o.bu) tk o.ow x;have HTAU:=yH hτ;have CP:=yH (aN0 HRo.out LA.out IA.out HT.out FT.out.ow FT.out.bu hx64.out hτ);clear hτ;go_wp2_with fail;refine CP.out.mono ?_;rintro e w6 ⟨rfl,r6,k6⟩;have AP:=(PA.out.ne_map LA.out).1;have KX6:=yH (KXA.out.keep k6 (by have:=HML.out;omega));have KF6:=yH (KFA.out.keep k6 (by have:=HML.out;omega));have P6:=yH (PA.out.keep k6 AP.1 AP.2);have B6:=yH (BK.out.trans (k6.mono (fun k _ h=>Or.inr (Or.inl h))));have L6:=yH r6;clear CP r6 k6 AP KXA KFA PA LA BK KOA;clear e0 e1 d0 d1 d2 d3 d4 d5 d6;have e0:=KX6.out.cell 0;have e1:=KX6.out.cell 1;simp at e0 e1;have CK:=yH (aP1 P6.out JJ.out s n);go_wp2_with fail;refine CK.out.mono ?_;rintro e w7 ⟨rfl,vb7,r7,k7,mv7⟩;have AP:=(P6.out.ne_map L6.out).2;have hgz:¬Foot gb vb (w.heap.size+1):=fun h=>by have:=HFO.out _ h;omega
  have KF7:=yH (KF6.out.keep k7 hgz);have L7:=yH (L6.out.keep k7 AP.1 AP.2);have B7:=yH (B6.out.trans (k7.mono (fun k _ h=>Or.inr (Or.inr h))));have P7:=yH r7;have MV:=yH (mv7.of_le B6.out.size);clear CK r7 k7 mv7 AP hgz KX6 KF6 P6 L6 B6;clear e0 e1;go_wp2_with (refine aAb rfl 73 (.tmp 10) (.tmp 81) rfl (w.heap.size+1) #[.int .u64 s,.int .u8 tk,.int .u8 pt,.int .i64 n,.int .i64 x] rfl rfl 73 _ KF7.out.out (by kernel_rfl) rfl (by simp[Value.oneCell']) ?_);refine bodyPost_ret (v:=.tuple #[.agg #[.int .u64 s,.int .u8 tk,.int .u8 pt,.int .i64 n,.int .i64 x],.int .i64 0]) (aAh rfl _ _ (w.heap.size+1) 73 #[.int .u64 s,.int .u8 tk,.int .u8 pt,.int .i64 n,.int .i64 x] _ _ rfl (setRow_heap _ (w.heap.size+1) _ _ _ (0,0) KF7.out.out) Tryz.underlying73 rfl (by kernel_rfl) rfl) rfl (.inr ⟨HOK.out,o,x,_,vb7,HF.out,HX.out.symm,⟨ls4,τ,(.inr ⟨HP.out,RT.out⟩),HTAU.out,rfl⟩,rfl,?_,?_,B7.out.freshRow (by omega) _,MV.out⟩)
  ·exact L7.out.keep (aAf _ _) (by have:=HGL.out;omega) (by have:=HML.out;omega)
  refine P7.out.keep (aAf _ _) (by have:=HBL.out;omega) (fun b hb h=>?_);subst h;exact aAi P7.out.row KF7.out (by decide) _ hb rfl
 have q2:decide (mayV l ps s tk pt n 1099511627776 m1 m2<n)=true:=by simpa using h2
 have NO:Hid (¬doOk l ps s tk pt n m1 m2):=yH (fun h=>h2 h.2);clear h2;generalize mayV l ps s tk pt n 1099511627776 m1 m2=mm at *;go_wp2_with (refine aAb rfl 73 (.tmp 10) (.tmp 34) rfl (w.heap.size+1) #[.int .u64 0,.int .u8 0,.int .u8 0,.int .i64 0,.int .i64 0] rfl rfl 73 _ KF1.out.out (by kernel_rfl) rfl (by simp[Value.oneCell']) ?_);refine bodyPost_ret (v:=.tuple #[aF3,.int .i64 1]) (aAh rfl _ _ (w.heap.size+1) 73 #[.int .u64 0,.int .u8 0,.int .u8 0,.int .i64 0,.int .i64 0] _ _ rfl (setRow_heap _ (w.heap.size+1) _ _ _ (0,0) KF1.out.out) Tryz.underlying73 rfl (by kernel_rfl) rfl) rfl (.inl ⟨NO.out,rfl,below_setRow B1.out (by omega) _⟩)
theorem aQn{w:World}{b o:Nat}{ls:List Of}(h:∀j,j<ls.length*7→w.cell? ⟨b,o+j,none⟩=(aAa ls)[j]?){k:Nat}(hk:k<ls.length):
  w.cell? ⟨b,o+k*7,none⟩=some (.int .u64 ls[k].se)∧w.cell? ⟨b,o+k*7+1,none⟩=some (.int .u8 ls[k].ow)∧w.cell? ⟨b,o+k*7+2,none⟩=some (.int .u8 ls[k].sl)∧w.cell? ⟨b,o+k*7+3,none⟩=some (.int .u8 ls[k].bu)∧w.cell? ⟨b,o+k*7+4,none⟩=some (.int .i64 ls[k].lf)∧w.cell? ⟨b,o+k*7+5,none⟩=some (.int .i64 ls[k].nu)∧w.cell? ⟨b,o+k*7+6,none⟩=some (.int .i64 ls[k].de):=by
 have q:∀j,j<7→w.cell? ⟨b,o+k*7+j,none⟩=ls[k].vals[j]? := fun j hj=>by
  have:=h (k*7+j) (by omega);rw[aAm ls k j hj hk,←Nat.add_assoc]at this;exact this
 exact⟨q 0 (by omega),q 1 (by omega),q 2 (by omega),q 3 (by omega),q 4 (by omega),q 5 (by omega),q 6 (by omega)⟩
structure OkTo(l:List Of)(last:Int):Prop where
 rise:l.Pairwise fun x y=>x.se<y.se
 ok:∀x∈l,x.may∧1≤x.se∧x.se≤last
 last:(l=[]∧last=0)∨∃x∈l,x.se=last
theorem OkTo.nil:OkTo [] 0:=⟨List.Pairwise.nil,by simp,.inl ⟨rfl,rfl⟩⟩
theorem OkTo.nonneg{l:List Of}{last:Int}(h:OkTo l last):0≤last:=by
 rcases h.last with⟨_,h⟩|⟨x,hx,h⟩
 ·omega
 have:=(h ▸ (‹OkTo l last›).ok x hx).2.1;omega
theorem OkTo.next{l:List Of}{last:Int}{k:Nat}(hk:k<l.length)(h:OkTo (l.take k) last)(hm:l[k].may)(hs:last<l[k].se):OkTo (l.take (k+1)) l[k].se:=by
 have h0:=h.nonneg;rw[List.take_succ_eq_append_getElem hk];refine⟨?_,fun x hx=>?_,.inr ⟨l[k],List.mem_append_right _ (List.mem_singleton.2 rfl),rfl⟩⟩
 ·rw[List.pairwise_append];refine⟨h.rise,by simp,fun a ha b hb=>?_⟩;rw[List.mem_singleton]at hb;subst hb;have:=(h.ok a ha).2.2;omega
 rcases List.mem_append.1 hx with hx|hx
 ·obtain⟨a,b,c⟩:=h.ok x hx;exact⟨a,b,by omega⟩
 rw[List.mem_singleton]at hx;subst hx;exact⟨hm,by omega,Int.le_refl _⟩
theorem OkTo.good{l:List Of}{last nx:Int}(h:OkTo l last)(hn:last<nx):okO nx l∧nx≠0:=by
 have:=h.nonneg;exact⟨⟨h.rise,fun x hx=>by obtain⟨a,b,c⟩:=h.ok x hx;exact⟨a,by omega,by omega⟩⟩,by omega⟩
theorem OkTo.bad{l:List Of}{last nx:Int}{k:Nat}(hk:k<l.length)(h:OkTo (l.take k) last)(h0:0≤l[k].se)(hb:¬l[k].may∨l[k].se≤last):¬(okO nx l∧nx≠0):=by
 rintro⟨⟨h1,h2⟩,_⟩;obtain⟨m,z,_⟩:=h2 _ (List.getElem_mem hk);rcases hb with hb|hb
 ·exact hb m
 rcases h.last with⟨_,e⟩|⟨x,hx,e⟩
 ·omega
 obtain⟨j,hj,rfl⟩:=List.mem_take_iff_getElem.1 hx;have:=List.pairwise_iff_getElem.1 h1 j k (by omega) hk (by omega);omega
theorem OkTo.late{l:List Of}{last nx:Int}(h:OkTo l last)(h0:0≤nx)(hb:nx≤last):¬(okO nx l∧nx≠0):=by
 rintro⟨⟨_,h2⟩,hz⟩;rcases h.last with⟨_,e⟩|⟨x,hx,e⟩
 ·omega
 have:=(h2 x hx).2.2;omega
def POfPost(w:World)(l:List Of)(nx:Int)(e:Ending)(w':World):Prop:=
 Below w.heap.size w w'∧((l.length≤32∧okO nx l∧nx≠0∧∃g vl,e=.returned (.tuple #[.pointer (some ⟨g,0,none⟩),.int .i64 0])∧PB w' w.heap.size g l nx vl)∨
  (e=.returned (.tuple #[.pointer none,.int .i64 9])∧32<l.length)∨(e=.returned (.tuple #[.pointer none,.int .i64 1])∧l.length≤32∧¬(okO nx l∧nx≠0)))
def POfAt(w:World)(l:List Of)(nx:Int)(s7 s18:Value)(wr:World):Prop:=
 ∃(k:Nat) (last:Int) (vl:Value),k≤l.length∧s18=.int .i64 k∧s7=.int .u64 last∧OkTo (l.take k) last∧PB wr w.heap.size w.heap.size (l.take k) nx vl∧Below w.heap.size w wr
theorem pofB_any{w:World}{v:Value}{l:List Of}{nx:Int}(hp:aC0 w v 7 l.length (aAa l))(hf:∀x∈l,x.Fits)(h0:0≤nx)(h1:nx≤18446744073709551615):
  Calls Tryz.prog 147 #[v,.int .u64 nx] w (POfPost w l nx):=by
 obtain⟨ai,capi,hv,hn,hxl,hrd⟩:=hp;subst hv;have HR:=yH hrd;have HF:=yH hf;clear hxl hrd hf
 by_cases h32:32<l.length
 ·have q0:decide (32<(l.length:Int))=true:=by simp;omega
  have H32:=yH h32;clear h32;go_enter Tryz.func147,Tryz.ntmps147;go_wp2_with fail;refine bodyPost_ret (v:=.tuple #[.pointer none,.int .i64 9]) (by simp[results,Tryz.results147,go_sem]) rfl ?_;exact⟨yZ,.inr (.inl ⟨rfl,H32.out⟩)⟩
 have q0:decide (32<(l.length:Int))=false:=by simp;omega
 have h32:l.length≤32:=by omega
 have KG:=yH (pAA w #[.slice none 0 0,.int .u64 nx] 63);have B0:=yH ((Below.refl w.heap.size w).alloc yL (.cells #[.slice none 0 0,.int .u64 nx] 63));go_enter Tryz.func147,Tryz.ntmps147;go_wp2_with fail
 go_loopw [7,18] (POfAt w l nx) (fun _ i _=>l.length - (intOf i).toNat)
 case atStart=>exact⟨0,0,.slice none 0 0,Nat.zero_le _,rfl,rfl,OkTo.nil,⟨KG.out,Nat.le_refl _,World.ownsRow_nil _ _ _ _⟩,B0.out⟩
 obtain⟨k,last,vl,hk,rfl,rfl,hO,hP,hb⟩:=hrel
 by_cases hkl:k<l.length
 ·obtain⟨b,o,rfl,hbl,hcell⟩:=HR.out (by omega);obtain⟨e0,e1,e2,e3,e4,e5,e6⟩:=aQn (w:=wr) (fun j hj=>by rw[hb.cell (p:=⟨b,o+j,none⟩) hbl];exact hcell j hj) hkl;have hx:=HF.out _ (List.getElem_mem hkl);have BD:=yH (fun h=>OkTo.bad (nx:=nx) hkl hO hx.se.1 h);have NX:=yH (fun h1 h2=>OkTo.next hkl hO h1 h2);have TK:=yH (List.take_succ_eq_append_getElem hkl);have hlk:(l.take k).length≤32:=Nat.le_trans (List.length_take_le _ _) (by omega);have HX:=yH hx;clear hcell hx hO;generalize l[k]=x at *;generalize l.take k=out at *;have bw:=(Below.refl wr.heap.size wr).alloc yL (.cells #[.int .u64 x.se,.int .u8 x.ow,.int .u8 x.sl,.int .u8 x.bu,.int .i64 x.lf,.int .i64 x.nu,.int .i64 x.de] 48);have K0:=yH (pAA wr #[.int .u64 x.se,.int .u8 x.ow,.int .u8 x.sl,.int .u8 x.bu,.int .i64 x.lf,.int .i64 x.nu,.int .i64 x.de] 48);have HP0:=yH (hP.below bw);have HNF:=yH (show ¬Foot w.heap.size vl wr.heap.size from fun h=>by have:=(hP.lt h).2;omega);have HBW:=yH (hb.trans (bw.mono hb.size));have CM:=yH (pmay_any x (wr.alloc (.cells #[.int .u64 x.se,.int .u8 x.ow,.int .u8 x.sl,.int .u8 x.bu,.int .i64 x.lf,.int .i64 x.nu,.int .i64 x.de] 48)) HX.out);clear bw hP hb
  by_cases hm:x.may
  ·rw[decide_eq_true hm]at CM
   by_cases hs:x.se≤last
   ·have HBad:=yH (BD.out (.inr hs));clear BD NX hm TK;go_wp2_with fail;refine CM.out.mono ?_;rintro e w3 ⟨rfl,b3⟩;have K3:=K0.out.below b3 K0.out.lt;have d0:=K3.cell 0;simp at d0;have HB3:=yT HBW b3;clear b3 K3 CM;go_wp2_with fail;refine bodyPost_ret (v:=.tuple #[.pointer none,.int .i64 1]) (by simp[results,Tryz.results147,go_sem]) rfl ?_;exact⟨HB3.out,.inr (.inr ⟨rfl,h32,HBad.out⟩)⟩
   have hs':last<x.se:=by omega
   have HN:=yH (NX.out hm hs');clear BD NX hm hs;go_wp2_with fail;refine CM.out.mono ?_;rintro e w3 ⟨rfl,b3⟩;have HA4:=yB K0 b3;have HG4':=HP0.out.below b3;have HB3:=yT HBW b3;clear b3 CM HP0 HBW K0;obtain⟨ao,cap,hvl,hc1,hc2,_⟩:=aAd HG4'.row;subst hvl;have HG4:=yH HG4';clear HG4';unfold maxLen at hc2;have d0:=HA4.out.cell 0;simp at d0;go_wp2_with fail;clear d0;have hgl:=HG4.out.blk.lt;have d0:=HG4.out.blk.cell 0;simp at d0;have a0:=HA4.out.cell 0;have a1:=HA4.out.cell 1;have a2:=HA4.out.cell 2;have a3:=HA4.out.cell 3;have a4:=HA4.out.cell 4;have a5:=HA4.out.cell 5;have a6:=HA4.out.cell 6;simp at a0 a1 a2 a3 a4 a5 a6
   go_region_law (refine aGp rfl (.tmp 35) (.tmp 37) 61 rfl w.heap.size 129 Tryz.underlying61 rfl aIn (.slice ao out.length cap) out rfl (aAc HG4.out.row (yZ.drew.alloc yL _)) w3.heap.size 1 x rfl (pAA w3.drew _ _) (by omega) (by simp;omega) ?_;intro v' w' ho hgr hat;have HAP:=yH (appended HG4.out ho hgr hat);have hB:=HAP.out.1;have d1:=hB.cell 0;have f1:=hB.frozen 0;have l1:=hB.lt;simp at d1;obtain⟨ao',cap',hv',_⟩:=aAd ho;obtain⟨ln,hln⟩:∃ln,(out++[x]).length=ln:=⟨_,rfl⟩;rw[hln]at hv';subst hv';clear hln;clear ho hgr hat hB d0)
   all_goals
    have HE:=yH HAP.out.2;clear HAP d1 f1 l1;have e3:=HE.out.2.2 HA4.out HNF.out;have e4:=e3.cell 0;simp at e4;clear e3;go_wp2_with fail;go_roundw
    case rel=>exact⟨k+1,x.se,_,by omega,by go_num,by first|rfl|go_num,HN.out,by rw[TK.out];exact HE.out.1,HB3.out.trans (HE.out.2.1.1.below HB3.out.size (fun j hj hf=>by have:=(HG4.out.lt hf).1;omega))⟩
    case measure=>simp[intOf];omega
  rw[decide_eq_false hm]at CM;have HBad:=yH (BD.out (.inl hm));clear BD NX hm TK;go_wp2_with fail;refine CM.out.mono ?_;rintro e w3 ⟨rfl,b3⟩;have HB3:=yT HBW b3;clear b3 CM;go_wp2_with fail;refine bodyPost_ret (v:=.tuple #[.pointer none,.int .i64 1]) (by simp[results,Tryz.results147,go_sem]) rfl ?_;exact⟨HB3.out,.inr (.inr ⟨rfl,h32,HBad.out⟩)⟩
 have hke:l.take k=l:=List.take_of_length_le (by omega);rw[hke]at hO hP
 by_cases hs:nx≤last
 ·have HBad:=yH (hO.late h0 hs);have HB:=yH hb;clear hO hP hb hke;go_wp2_with fail;refine bodyPost_ret (v:=.tuple #[.pointer none,.int .i64 1]) (by simp[results,Tryz.results147,go_sem]) rfl ?_;exact⟨HB.out,.inr (.inr ⟨rfl,h32,HBad.out⟩)⟩
 have HG:=yH (hO.good (nx:=nx) (by omega));have HB:=yH hb;have HP:=yH hP;clear hO hP hb hke;go_wp2_with fail;refine bodyPost_ret (v:=.tuple #[.pointer (some ⟨w.heap.size,0,none⟩),.int .i64 0]) (by simp[results,Tryz.results147,go_sem]) rfl ?_;exact⟨HB.out,.inl ⟨h32,HG.out.1,HG.out.2,w.heap.size,vl,rfl,HP.out⟩⟩
end Go.Proofs.YtaeocliklpcgmaaGreat
