/- Pieces of one proof. -/
import Derived.Test.YtaeocliklpcgmaaGreatV14
import Derived.Laws.EntriesVeiled
import Derived.Shelf.Abstract
import Derived.Laws.AppendOwnNone
set_option linter.all false
set_option maxHeartbeats 64000000
set_option maxRecDepth 100000
namespace Go.Proofs.YtaeocliklpcgmaaGreat
open Go.RowKit
theorem fitN_nn{g nu de:Int}:0≤fitN g nu de:=by
 unfold fitN;split
 ·rename_i h;have:=aD8 h.1;have:=Int.ediv_nonneg (Int.mul_nonneg h.2 (show 0≤de by omega)) (show 0≤nu by omega);omega
 omega
theorem fitN_mono{a b nu de:Int}(h0:0≤a)(h:a≤b):fitN a nu de≤fitN b nu de:=by
 unfold fitN
 by_cases hm:mayB nu de=true
 ·rw[if_pos ⟨hm,h0⟩,if_pos ⟨hm,by omega⟩];have hb:=aD8 hm;have h1:a*de≤b*de:=Int.mul_le_mul_of_nonneg_right h (by omega);have:=Int.ediv_le_ediv (show 0<nu by omega) h1;omega
 rw[if_neg (fun q=>hm q.1),if_neg (fun q=>hm q.1)];omega
theorem may_do{l:List Of}{ps:List Int}{s tk pt want most m1 m2 n:Int}(h1:0≤m1)(h2:0≤m2)(hn:mayV l ps s tk pt want most m1 m2=n)(h:1≤n):
  doOk l ps s tk pt n m1 m2∧n≤want∧1≤most∧∃o,aA3 l s=some o∧n≤fitN (min (min most 1099511627776) m2) o.nu o.de:=by
 unfold mayV at hn
 cases hf:aA3 l s with
 | none=>rw[hf]at hn;simp at hn;omega
 | some o=>
  rw[hf]at hn;simp only[mayO]at hn
  by_cases hb:o.ow=tk∨o.ow∉ps∨tk∉ps∨pt∉ps∨want<1∨most<1
  ·rw[if_pos hb]at hn;omega
  rw[if_neg hb]at hn
  have hb2:¬(o.ow=tk∨o.ow∉ps∨tk∉ps∨pt∉ps∨n<1∨(1099511627776:Int)<1):=by
   intro q;rcases q with q|q|q|q|q|q
   ·exact hb (.inl q)
   ·exact hb (.inr (.inl q))
   ·exact hb (.inr (.inr (.inl q)))
   ·exact hb (.inr (.inr (.inr (.inl q))))
   ·omega
   omega
  have hmo:¬most<1:=fun q=>hb (.inr (.inr (.inr (.inr (.inr q)))))
  have hmn:=fitN_mono (nu:=o.nu) (de:=o.de) (a:=min (min most 1099511627776) m2) (b:=min (min 1099511627776 1099511627776) m2) (by omega) (by omega);have hle:n≤want∧n≤fitN (min (min most 1099511627776) m2) o.nu o.de:=by split at hn <;> omega
  refine⟨⟨h,?_⟩,hle.1,by omega,o,rfl,hle.2⟩;unfold mayV;rw[hf];simp only[mayO];rw[if_neg hb2];split at hn
  ·rename_i hp;rw[if_pos hp];omega
  rename_i hp;rw[if_neg hp];omega
theorem take_facts{l:List Of}{N:Int}(h:BInv l N){s n:Int}{o:Of}(hf:aA3 l s=some o)(h1:1≤n)(h2:n≤o.lf):
  aCe l s n=setO l s (o.lf - n):=by
 unfold aCe aEb aMr;rw[hf];simp only[];rw[if_pos (show(if n<1∨o.lf<n then(1:Int)else 0)=0 from if_neg (by omega))]
theorem pay_goes{ps:List Int}{ls:List Ln}(hI:LInv ps ls){a b c n m:Int}{σ μ:RS}(ha:a∈ps)(hb:b∈ps)(hab:a≠b)(hc:1≤c∧c≤8)(h1:1≤n)(h2:n≤1099511627776)
  (hσ:aAc (aBg ps ls c) 4398046511104 a b n σ)(hμ:aAc (aBg ps ls c) 4398046511104 a b aA7 μ)(hm:aA7 - μ.left=m)(hnm:n≤m):
  payE ps a b c n σ=0∧payL ps ls a b c n σ=aBr ps c ls σ.out∧n - σ.left=n:=by
 have pa:=hI.bd a ha;have pb:=hI.bd b hb;have MIN:=aKo hσ hμ (aAm hI c) pa pb hab h1;rw[hm]at MIN;have hg:n - σ.left=n:=by rw[MIN];omega
 have PE:payE ps a b c n σ=0:=by
  unfold payE;rcases aMe (fun p=>decide (p∈ps)) a b c n (n - σ.left)with⟨_,q⟩|⟨_,_,q⟩|⟨_,_,_,_,q⟩|⟨q,_⟩
  ·exact absurd ⟨pa,pb,hab,hc.1,hc.2,h1,h2⟩ q
  ·rcases q with q|q
   ·exact absurd ha (by simpa using q)
   exact absurd hb (by simpa using q)
  ·omega
  exact q
 exact⟨PE,by unfold payL;rw[if_pos PE],hg⟩
theorem pay_pos{ps:List Int}{ls:List Ln}(hI:LInv ps ls){a b c n:Int}{σ:RS}(hσ:aAc (aBg ps ls c) 4398046511104 a b n σ)(hg:n - σ.left=n)(p d:Int):
  posL (aBr ps c ls σ.out) p d=posL ls p d+(if d=c then(if b=p then n else 0) - (if a=p then n else 0)else 0):=by
 rw[aH6 p σ.out hI hσ.good.1 d,hσ.net p,hg]
def aK9(o:Of)(tk pt n x p c:Int):Int:=
 (((if c=o.sl∧p=o.ow then -n else 0)+(if c=o.sl∧p=pt then n else 0))+(if c=o.bu∧p=tk then -x else 0))+(if c=o.bu∧p=o.ow then x else 0)
theorem aLa{ps:List Int}{ls ls':List Ln}(hI:LInv ps ls){l:List Of}{N:Int}(hJ:BInv l N){s tk pt n m1 m2 x:Int}{o:Of}(hf:aA3 l s=some o)(hG:Goes ps ls o tk pt m1 m2)(hd:doOk l ps s tk pt n m1 m2)(hx:x=upN (n*o.nu) o.de)(hF:aG1 ps ls o tk pt n x ls'):
  limL ls=limL ls'∧(∀p c,posL ls' p c=posL ls p c+aK9 o tk pt n x p c)∧1≤x∧x≤1099511627776∧x≤m2:=by
 obtain⟨o',hf',⟨k1,k2,k3,k4⟩,k5,k6,k7⟩:=hd.facts;rw[hf]at hf'
 cases hf'
 have hB:=hG.bd hI;obtain⟨⟨μ,hμ,em⟩,ν,hν,en⟩:=hG;obtain⟨_,⟨s1,s2⟩,⟨b1,b2⟩,hsb,⟨l1,l2⟩,hm⟩:=hJ.may o (aCf hf).1;have hn1:=hd.1;have hb:=aD8 hm;obtain⟨u1,u2,u3⟩:=aMs hm (g:=min 1099511627776 m2) (by omega) (by omega) (by omega) k7;rw[←hx]at u2 u3
 have hx1:1≤x:=by
  have hp:1≤n*o.nu:=by have:=Int.mul_le_mul hn1 hb.1 (by omega) (by omega);omega
  rw[hx];unfold upN;have h0:0≤n*o.nu/o.de:=Int.ediv_nonneg (by omega) (by omega);split
  ·rename_i h;have hd2:=Int.mul_ediv_add_emod (n*o.nu) o.de;rw[h]at hd2;rcases Int.lt_or_le (n*o.nu/o.de) 1 with k|k
   ·have:n*o.nu/o.de=0:=by omega
    rw[this]at hd2;omega
   exact k
  omega
 obtain⟨ls1,τ,hA,hτ,rfl⟩:=hF
 have hroom:LInv ps ls1∧aBg ps ls1 o.bu=aBg ps ls o.bu∧limL ls=limL ls1∧∀p c,posL ls1 p c=posL ls p c+((if c=o.sl∧p=o.ow then -n else 0)+(if c=o.sl∧p=pt then n else 0)):=by
  rcases hA with⟨hp,rfl⟩|⟨hp,σ,hσ,rfl⟩
  ·refine⟨hI,rfl,rfl,fun p c=>?_⟩;subst hp
   by_cases h:c=o.sl∧p=o.ow
   ·rw[if_pos h,if_pos h];omega
   rw[if_neg h,if_neg h];omega
  have hn:n≤m1:=by rcases k6 with h|h;exact absurd h hp;exact h
  obtain⟨e1,e2,e3⟩:=pay_goes hI k2 k4 (fun e=>hp e.symm) ⟨s1,s2⟩ hn1 (by omega) hσ hμ em hn;rw[e2];refine⟨aDw _ hI,aGw hsb _ hI,(aEj _ hI).symm,fun p c=>?_⟩;rw[pay_pos hI hσ e3];clear hμ hν hσ hτ hm hx hb u1
  repeat' split
  all_goals omega
 obtain⟨hI1,hr,hl,hpos⟩:=hroom;rw[hr]at hτ;rw[←hr]at hν hτ;obtain⟨e1,e2,e3⟩:=pay_goes hI1 k3 k2 (fun e=>k1 e.symm) ⟨b1,b2⟩ hx1 (by omega) hτ hν en (by omega);rw[e2];refine⟨hl.trans (aEj _ hI1).symm,fun p c=>?_,hx1,by omega,by omega⟩;rw[pay_pos hI1 hτ e3,hpos];unfold aK9;generalize (if c=o.sl∧p=o.ow then -n else 0)+(if c=o.sl∧p=pt then n else 0)=S;clear hμ hν hτ hm hx hb u1 hpos
 repeat' split
 all_goals omega
theorem aIc{ps:List Int}{ls:List Ln}(hI:LInv ps ls)(l:List Of)(s tk pt:Int):∃m1 m2,(∀o,aA3 l s=some o→Goes ps ls o tk pt m1 m2)∧0≤m1∧0≤m2:=by
 cases hf:aA3 l s with
 | none=>exact⟨0,0,(fun o h=>by cases h),by omega,by omega⟩
 | some o=>
  obtain⟨m1,m2,g⟩:=goes_ends hI o tk pt;have:=g.bd hI;exact⟨m1,m2,(fun o' h=>by cases h;exact g),by omega,by omega⟩
def aAw:Int→List Int→Int
 | n,[]=>n
 | n,v::vs=>if min n v<1 then 0 else aAw (min n v) vs
structure Bnd(w:World)(rv:Value)(b:Nat×Int):Prop where
 enter:∀args w',(callFunc b.1 args).run Tryz.prog w'=.ok (.enter b.1 args) w'
 call:∀w',Below w.heap.size w w'→Calls Tryz.prog b.1 #[rv] w' fun e w''=>e=.returned (.int .i64 b.2)∧Below w'.heap.size w' w''
theorem Bnd.below{w w':World}{rv:Value}{b:Nat×Int}(h:Bnd w rv b)(k:Below w.heap.size w w'):Bnd w' rv b:=⟨h.enter,fun w2 q=>h.call w2 (andB k q)⟩
def bndV(rv:Value)(b:Nat×Int):Value:=.func (.func b.1) #[rv] #[]
def LeastAt(W:World)(bs:List (Nat×Int))(n i:Value)(wr:World):Prop:=
 ∃(k:Nat) (m:Int),k≤bs.length∧i=.int .i64 k∧n=.int .i64 m∧(m≤1099511627776 ∧ -9223372036854775808≤m)∧Below W.heap.size W wr∧Hid (aAw 1099511627776 (bs.map (·.2))=aAw m ((bs.drop k).map (·.2)))
theorem aLb{w:World}{g:Nat}{rv:Value}{bs:List (Nat×Int)}{t:TypeId}(hk:Blk w g (bs.map (bndV rv)).toArray t)(hb:∀b∈bs,Bnd w rv b)(h64:∀b∈bs,In64 b.2)(hl:bs.length≤100):
  Calls Tryz.prog 81 #[.slice (some ⟨g,0,none⟩) bs.length bs.length] w (yR w (.int .i64 (aAw 1099511627776 (bs.map (·.2))))):=by
 have K:=yH hk;have HB:=yH hb;have H64:=yH h64;clear hk hb h64;go_enter Tryz.func81,Tryz.ntmps81;go_wp2_with fail
 go_loopw [3,8] (LeastAt w bs) (fun _ i _=>bs.length - (intOf i).toNat)
 case atStart=>exact⟨0,_,by omega,rfl,rfl,by omega,yZ,yH rfl⟩
 obtain⟨k,m,hkl,rfl,rfl,⟨m1,m2⟩,hB,HE⟩:=hrel;have BB:=yH hB;clear hB
 by_cases hlt:k<bs.length
 ·have hki:(k:Int)<(bs.length:Int):=by omega
  have hk0:(0:Int)≤(k:Int):=by omega
  have q0:decide ((k:Int)<(bs.length:Int))=true:=by simpa using hlt
  have KK:=yH (K.out.below BB.out K.out.lt);have d0:=KK.out.cell k;have kl:=KK.out.lt;simp only[List.getElem?_toArray,List.getElem?_map,List.getElem?_eq_getElem hlt,Option.map_some]at d0;have HBk:=yH ((HB.out bs[k] (List.getElem_mem _)).below BB.out);have h64:=H64.out bs[k] (List.getElem_mem _);have HD:Hid (bs.drop k=bs[k]::bs.drop (k+1)):=yH (List.drop_eq_getElem_cons hlt);generalize bs[k]=b at *;obtain⟨f,v⟩:=b;unfold bndV at d0;dsimp only at d0 h64;have hv1:=h64.1;have hv2:=h64.2;clear h64;have CB:=yH (HBk.out.call wr yZ);have EN:=HBk.out.enter #[rv] wr;dsimp only at CB EN;have HM:Hid (aAw m (((f,v)::bs.drop (k+1)).map (·.2))=if min m v<1 then 0 else aAw (min m v) ((bs.drop (k+1)).map (·.2))):=yH rfl;clear HBk;go_wp2_with fail;refine CB.out.mono ?_;rintro e w1 ⟨rfl,b1⟩;have B1:=yT BB b1;clear b1 CB EN d0 kl
  by_cases hz:min m v<1
  ·have q1:decide (min m v<1)=true:=by simpa using hz
   have HZ:=yH hz;clear hz;go_wp2_with fail;go_ret;exact⟨by rw[HE.out,HD.out,HM.out.trans (if_pos HZ.out)];rfl,B1.out⟩
  have q1:decide (min m v<1)=false:=by simpa using hz
  have HZ:=yH hz;clear hz;go_wp2_with fail;exact⟨⟨k+1,_,by omega,by go_num,rfl,by omega,B1.out,yH (by rw[HE.out,HD.out];exact HM.out.trans (if_neg (by have:=HZ.out;omega)))⟩,by simp[intOf];omega⟩
 have hkn:k=bs.length:=by omega
 subst hkn;have q0:decide (((bs.length:Nat):Int)<(bs.length:Int))=false:=by simp
 have HM:Hid (aAw m ((bs.drop bs.length).map (·.2))=m):=yH (by rw[List.drop_length];rfl);go_wp2_with fail;go_ret;exact⟨by rw[HE.out,HM.out];rfl,BB.out⟩
abbrev filV(lp:Option Addr)(o:Of)(tk pt want most:Int):Value:=.agg #[.pointer lp,.int .u64 o.se,.int .u8 o.ow,.int .u8 o.sl,.int .u8 o.bu,.int .i64 o.lf,.int .i64 o.nu,.int .i64 o.de,.int .u8 tk,.int .u8 pt,.int .i64 want,.int .i64 most]
abbrev filC(lp:Option Addr)(o:Of)(tk pt want most:Int):Array Value:=#[.pointer lp,.int .u64 o.se,.int .u8 o.ow,.int .u8 o.sl,.int .u8 o.bu,.int .i64 o.lf,.int .i64 o.nu,.int .i64 o.de,.int .u8 tk,.int .u8 pt,.int .i64 want,.int .i64 most]
theorem aMt(lp:Option Addr)(o:Of)(tk pt want most:Int)(w:World):Calls Tryz.prog 82 #[filV lp o tk pt want most] w (yR w (.int .i64 want)):=by
 have B:=yH ((Below.refl w.heap.size w).alloc yL (.cells (filC lp o tk pt want most) 146));unfold filV;go_enter Tryz.func82,Tryz.ntmps82;go_wp2_with fail;go_ret;exact⟨rfl,B.out⟩
theorem fleft_any(lp:Option Addr)(o:Of)(tk pt want most:Int)(w:World):Calls Tryz.prog 83 #[filV lp o tk pt want most] w (yR w (.int .i64 o.lf)):=by
 have B:=yH ((Below.refl w.heap.size w).alloc yL (.cells (filC lp o tk pt want most) 146));unfold filV;go_enter Tryz.func83,Tryz.ntmps83;go_wp2_with fail;go_ret;exact⟨rfl,B.out⟩
theorem aLc(lp:Option Addr)(o:Of)(tk pt want most:Int)(w:World):Calls Tryz.prog 135 #[filV lp o tk pt want most] w (yR w (.int .i64 most)):=by
 have B:=yH ((Below.refl w.heap.size w).alloc yL (.cells (filC lp o tk pt want most) 146));unfold filV;go_enter Tryz.func135,Tryz.ntmps135;go_wp2_with fail;go_ret;exact⟨rfl,B.out⟩
theorem fsold_any(HM:aCs){w:World}{G M:Nat}{ps:List Int}{ls:List Ln}{o:Of}(h:LedM w G M ps ls)(hI:LInv ps ls)(hf:o.Fits)(tk pt want most:Int)(hp:In8 pt){m1 m2:Int}(g:Goes ps ls o tk pt m1 m2):
  Calls Tryz.prog 84 #[filV (some ⟨G,0,none⟩) o tk pt want most] w fun e w'=>e=.returned (.int .i64 (if pt=o.ow then 1099511627776 else m1))∧Below w.heap.size w w':=by
 have bw:=(Below.refl w.heap.size w).alloc yL (.cells (filC (some ⟨G,0,none⟩) o tk pt want most) 146);have B:=yH bw;obtain⟨⟨μ,h1,h2⟩,_⟩:=g;have CM:=yH (aI2 HM (h.below bw) hI hf.ow hp hf.sl h1);rw[h2]at CM;clear bw h hI hf hp h1 h2;unfold filV
 by_cases he:pt=o.ow
 ·rw[if_pos he];subst he;have q0:(o.ow==o.ow)=true:=by simp
  clear CM;go_enter Tryz.func84,Tryz.ntmps84;go_wp2_with fail;go_ret;exact⟨rfl,B.out⟩
 rw[if_neg he];have q0:(pt==o.ow)=false:=by simpa using he
 clear he;go_enter Tryz.func84,Tryz.ntmps84;go_wp2_with fail;refine CM.out.mono ?_;rintro e w1 ⟨rfl,b1⟩;have B1:=yT B b1;clear b1;go_wp2_with fail;go_ret;exact⟨rfl,B1.out⟩
theorem aMu(HM:aCs){w:World}{G M:Nat}{ps:List Int}{ls:List Ln}{o:Of}(h:LedM w G M ps ls)(hI:LInv ps ls)(hf:o.Fits)(tk pt want most:Int)(ht:In8 tk){m1 m2:Int}(g:Goes ps ls o tk pt m1 m2):
  Calls Tryz.prog 136 #[filV (some ⟨G,0,none⟩) o tk pt want most] w (yR w (.int .i64 m2)):=by
 have bw:=(Below.refl w.heap.size w).alloc yL (.cells (filC (some ⟨G,0,none⟩) o tk pt want most) 146);have B:=yH bw;obtain⟨_,μ,h1,h2⟩:=g;have CM:=yH (aI2 HM (h.below bw) hI ht hf.ow hf.bu h1);rw[h2]at CM;clear bw h hI hf ht h1 h2;unfold filV;go_enter Tryz.func136,Tryz.ntmps136;go_wp2_with fail;refine CM.out.mono ?_;rintro e w1 ⟨rfl,b1⟩;have B1:=yT B b1;clear b1;go_wp2_with fail;go_ret;exact⟨rfl,B1.out⟩
theorem aId:∀(vs:List Int) {n:Int},n≤1099511627776 → -9223372036854775808≤n→(∀v∈vs,-9223372036854775808≤v)→In64 (aAw n vs)
 | [],n,h1,h2,_=>⟨by unfold aAw;omega,by unfold aAw;omega⟩
 | v::vs,n,h1,h2,h=>by
  unfold aAw;split
  ·exact⟨by omega,by omega⟩
  rename_i hz;have:=h v (List.mem_cons_self);exact aId vs (by omega) (by omega) (fun x hx=>h x (List.mem_cons_of_mem _ hx))
theorem ffits_any(HM:aCs){w:World}{G M:Nat}{ps:List Int}{ls:List Ln}{o:Of}(h:LedM w G M ps ls)(hI:LInv ps ls)(hf:o.Fits)(tk pt want most:Int)(ht:In8 tk)(hm:In64 most){m1 m2:Int}(g:Goes ps ls o tk pt m1 m2):
  Calls Tryz.prog 85 #[filV (some ⟨G,0,none⟩) o tk pt want most] w (yR w (.int .i64 (fitN (aAw 1099511627776 [most,m2]) o.nu o.de))):=by
 have bw:=(Below.refl w.heap.size w).alloc yL (.cells (filC (some ⟨G,0,none⟩) o tk pt want most) 146);have KX:=yH (pAA w (filC (some ⟨G,0,none⟩) o tk pt want most) 146);have B:=yH bw;have hbd:=g.bd hI;have H64a:=yH hm;have H64b:Hid (In64 m2):=yH ⟨by omega,by omega⟩;have H64l:Hid (In64 (aAw 1099511627776 [most,m2])):=yH (aId _ (by omega) (by omega) (by intro v hv;simp only[yI,yJ,or_false]at hv;rcases hv with rfl|rfl;exact hm.1;omega));have HF:=yH hf;have L:=h.below bw
 have HA:Hid (Bnd (w.alloc (.cells (filC (some ⟨G,0,none⟩) o tk pt want most) 146)) (filV (some ⟨G,0,none⟩) o tk pt want most) (135,most)):=yH
  ⟨enters_of Tryz.func135 (by kernel_rfl) rfl,fun w' k=>aLc _ o tk pt want most w'⟩
 have HBo:Hid (Bnd (w.alloc (.cells (filC (some ⟨G,0,none⟩) o tk pt want most) 146)) (filV (some ⟨G,0,none⟩) o tk pt want most) (136,m2)):=yH
  ⟨enters_of Tryz.func136 (by kernel_rfl) rfl,fun w' k=>aMu HM (L.below k) hI hf tk pt want most ht g⟩
 clear bw h hI hf hm hbd L g;go_enter Tryz.func85,Tryz.ntmps85
 go_upto_region 1 with fail
 generalize w.alloc (.cells #[.pointer (some ⟨G,0,none⟩),.int .u64 o.se,.int .u8 o.ow,.int .u8 o.sl,.int .u8 o.bu,.int .i64 o.lf,.int .i64 o.nu,.int .i64 o.de,.int .u8 tk,.int .u8 pt,.int .i64 want,.int .i64 most] 146)=W at *
 refine aAz (by kernel_rfl) (fun g:Nat→Nat=>[(filV (some ⟨G,0,none⟩) o tk pt want most),(.func (.func 135) #[(filV (some ⟨G,0,none⟩) o tk pt want most)] #[]),(filV (some ⟨G,0,none⟩) o tk pt want most),(.func (.func 136) #[(filV (some ⟨G,0,none⟩) o tk pt want most)] #[]),(.slice (some ⟨g 4,0,none⟩) 2 2),(.int .i64 (aAw 1099511627776 [most,m2])),(.pointer (some ⟨w.heap.size,1,none⟩)),(.pointer (some ⟨w.heap.size,6,none⟩)),(.agg #[.int .i64 o.nu,.int .i64 o.de]),(.int .i64 (fitN (aAw 1099511627776 [most,m2]) o.nu o.de)),(.int .i64 (fitN (aAw 1099511627776 [most,m2]) o.nu o.de))])
  (Lays W [(⟨4,4,(.cells #[(.func (.func 135) #[(filV (some ⟨G,0,none⟩) o tk pt want most)] #[]),(.func (.func 136) #[(filV (some ⟨G,0,none⟩) o tk pt want most)] #[])] 148),(.cells #[(.func (.func 135) #[(filV (some ⟨G,0,none⟩) o tk pt want most)] #[]),(.func (.func 136) #[(filV (some ⟨G,0,none⟩) o tk pt want most)] #[])] 148)⟩:Spec)]) (by kernel_rfl) (fun _=>0) (Lays.start _ _ _) ?_
 intro AF hAF;simp only[yG,puts,Act.put,yA,yC,yF,yD,yE]at hAF;have hAF2:_=AF:=funext hAF;subst hAF2;clear hAF;refine⟨?_,?_⟩
 ·simp only[yG,aEc];refine⟨?_,?_,?_,?_,?_,?_,?_,?_,?_,?_,?_,trivial⟩
  ·intro g D w' hD hW hC hI;refine⟨g,fun _ _ _=>rfl,?_⟩;with_reducible refine yO rfl ?_
   have hS:=hI.below;have hl0:=yM KX.out.lt hS.size;have d0_0:=(KX.out.below hS KX.out.lt).cell 0;have d0_1:=(KX.out.below hS KX.out.lt).cell 1;have d0_2:=(KX.out.below hS KX.out.lt).cell 2;have d0_3:=(KX.out.below hS KX.out.lt).cell 3;have d0_4:=(KX.out.below hS KX.out.lt).cell 4;have d0_5:=(KX.out.below hS KX.out.lt).cell 5;have d0_6:=(KX.out.below hS KX.out.lt).cell 6;have d0_7:=(KX.out.below hS KX.out.lt).cell 7;have d0_8:=(KX.out.below hS KX.out.lt).cell 8;have d0_9:=(KX.out.below hS KX.out.lt).cell 9;have d0_10:=(KX.out.below hS KX.out.lt).cell 10;have d0_11:=(KX.out.below hS KX.out.lt).cell 11;simp at d0_0 d0_1 d0_2 d0_3 d0_4 d0_5 d0_6 d0_7 d0_8 d0_9 d0_10 d0_11;have HS:=yH (hI.step yZ (k:=0) (by rfl));clear hI hS hC hW hD;go_wp2_with fail;all_goals first|exact HS|exact⟨rfl,HS⟩|rfl
  ·intro g D w' hD hW hC hI;refine⟨g,fun _ _ _=>rfl,?_⟩;with_reducible refine yO rfl ?_
   have hS:=hI.below;have HS:=yH (hI.step yZ (k:=1) (by rfl));clear hI hS hC hW hD;go_wp2_with fail;all_goals first|exact HS|exact⟨rfl,HS⟩|rfl
  ·intro g D w' hD hW hC hI;refine⟨g,fun _ _ _=>rfl,?_⟩;with_reducible refine yO rfl ?_
   have hS:=hI.below;have hl0:=yM KX.out.lt hS.size;have d0_0:=(KX.out.below hS KX.out.lt).cell 0;have d0_1:=(KX.out.below hS KX.out.lt).cell 1;have d0_2:=(KX.out.below hS KX.out.lt).cell 2;have d0_3:=(KX.out.below hS KX.out.lt).cell 3;have d0_4:=(KX.out.below hS KX.out.lt).cell 4;have d0_5:=(KX.out.below hS KX.out.lt).cell 5;have d0_6:=(KX.out.below hS KX.out.lt).cell 6;have d0_7:=(KX.out.below hS KX.out.lt).cell 7;have d0_8:=(KX.out.below hS KX.out.lt).cell 8;have d0_9:=(KX.out.below hS KX.out.lt).cell 9;have d0_10:=(KX.out.below hS KX.out.lt).cell 10;have d0_11:=(KX.out.below hS KX.out.lt).cell 11;simp at d0_0 d0_1 d0_2 d0_3 d0_4 d0_5 d0_6 d0_7 d0_8 d0_9 d0_10 d0_11;have HS:=yH (hI.step yZ (k:=2) (by rfl));clear hI hS hC hW hD;go_wp2_with fail;all_goals first|exact HS|exact⟨rfl,HS⟩|rfl
  ·intro g D w' hD hW hC hI;refine⟨g,fun _ _ _=>rfl,?_⟩;with_reducible refine yO rfl ?_
   have hS:=hI.below;have HS:=yH (hI.step yZ (k:=3) (by rfl));clear hI hS hC hW hD;go_wp2_with fail;all_goals first|exact HS|exact⟨rfl,HS⟩|rfl
  ·intro g D w' hD hW hC hI;refine⟨upd g 4 w'.heap.size,aCp _ (fun g:Nat→Nat=>[(filV (some ⟨G,0,none⟩) o tk pt want most),(.func (.func 135) #[(filV (some ⟨G,0,none⟩) o tk pt want most)] #[]),(filV (some ⟨G,0,none⟩) o tk pt want most),(.func (.func 136) #[(filV (some ⟨G,0,none⟩) o tk pt want most)] #[]),(.slice (some ⟨g 4,0,none⟩) 2 2),(.int .i64 (aAw 1099511627776 [most,m2])),(.pointer (some ⟨w.heap.size,1,none⟩)),(.pointer (some ⟨w.heap.size,6,none⟩)),(.agg #[.int .i64 o.nu,.int .i64 o.de]),(.int .i64 (fitN (aAw 1099511627776 [most,m2]) o.nu o.de)),(.int .i64 (fitN (aAw 1099511627776 [most,m2]) o.nu o.de))]) g 4 _ 12 hC hD ?_,?_⟩
   ·intro j hj
    match j,hj with
    | 0,_=>exact .inr rfl
    | 1,_=>exact .inr rfl
    | 2,_=>exact .inr rfl
    | 3,_=>exact .inr rfl
    | 4,_=>exact .inl (.inl rfl)
    | 5,_=>exact .inr rfl
    | 6,_=>exact .inr rfl
    | 7,_=>exact .inr rfl
    | 8,_=>exact .inr rfl
    | 9,_=>exact .inr rfl
    | 10,_=>exact .inr rfl
    | j+11,_=>exact .inr rfl
   with_reducible refine yO rfl ?_
   have HS:=yH (hI.lay (⟨4,4,(.cells #[(.func (.func 135) #[(filV (some ⟨G,0,none⟩) o tk pt want most)] #[]),(.func (.func 136) #[(filV (some ⟨G,0,none⟩) o tk pt want most)] #[])] 148),(.cells #[(.func (.func 135) #[(filV (some ⟨G,0,none⟩) o tk pt want most)] #[]),(.func (.func 136) #[(filV (some ⟨G,0,none⟩) o tk pt want most)] #[])] 148)⟩:Spec) (by simp) (by rfl) (.inl rfl) (by rfl) (fun s' hs' _=>List.mem_singleton.1 hs') (.cells #[(.func (.func 135) #[(filV (some ⟨G,0,none⟩) o tk pt want most)] #[]),(.func (.func 136) #[(filV (some ⟨G,0,none⟩) o tk pt want most)] #[])] 148) rfl);clear hI hC hW hD;go_wp2_with fail;all_goals first|exact HS|exact⟨rfl,HS⟩|rfl
  ·intro g D w' hD hW hC hI;refine⟨g,fun _ _ _=>rfl,?_⟩;with_reducible refine yO rfl ?_
   have hS:=hI.below;have HI:=yH hI;have HC:=yH (aLb (bs:=[(135,most),(136,m2)]) (rv:=(filV (some ⟨G,0,none⟩) o tk pt want most)) (show Blk w' (g 4) (List.map (bndV (filV (some ⟨G,0,none⟩) o tk pt want most)) [(135,most),(136,m2)]).toArray 148 from(hI.full (⟨4,4,(.cells #[(.func (.func 135) #[(filV (some ⟨G,0,none⟩) o tk pt want most)] #[]),(.func (.func 136) #[(filV (some ⟨G,0,none⟩) o tk pt want most)] #[])] 148),(.cells #[(.func (.func 135) #[(filV (some ⟨G,0,none⟩) o tk pt want most)] #[]),(.func (.func 136) #[(filV (some ⟨G,0,none⟩) o tk pt want most)] #[])] 148)⟩:Spec) (by simp) (aA2 hC hW (d:=12) (by kernel_rfl)) (aA2 hC hW (d:=12) (by kernel_rfl))).2) (by intro b hb;simp only[yI,yJ,or_false]at hb;rcases hb with rfl|rfl;exact HA.out.below hS;exact HBo.out.below hS) (by intro b hb;simp only[yI,yJ,or_false]at hb;rcases hb with rfl|rfl;exact H64a.out;exact H64b.out) (by simp));clear hI hS hC hW hD;go_wp2_with fail;refine HC.out.mono ?_;rintro e w'' ⟨rfl,hb2⟩;exact⟨rfl,HI.out.step hb2 (by rfl)⟩
  ·intro g D w' hD hW hC hI;refine⟨g,fun _ _ _=>rfl,?_⟩;with_reducible refine yO rfl ?_
   have hS:=hI.below;have HS:=yH (hI.step yZ (k:=6) (by rfl));clear hI hS hC hW hD;go_wp2_with fail;all_goals first|exact HS|exact⟨rfl,HS⟩|rfl
  ·intro g D w' hD hW hC hI;refine⟨g,fun _ _ _=>rfl,?_⟩;with_reducible refine yO rfl ?_
   have hS:=hI.below;have HS:=yH (hI.step yZ (k:=7) (by rfl));clear hI hS hC hW hD;go_wp2_with fail;all_goals first|exact HS|exact⟨rfl,HS⟩|rfl
  ·intro g D w' hD hW hC hI;refine⟨g,fun _ _ _=>rfl,?_⟩;with_reducible refine yO rfl ?_
   have hS:=hI.below;have hl0:=yM KX.out.lt hS.size;have d0_0:=(KX.out.below hS KX.out.lt).cell 0;have d0_1:=(KX.out.below hS KX.out.lt).cell 1;have d0_2:=(KX.out.below hS KX.out.lt).cell 2;have d0_3:=(KX.out.below hS KX.out.lt).cell 3;have d0_4:=(KX.out.below hS KX.out.lt).cell 4;have d0_5:=(KX.out.below hS KX.out.lt).cell 5;have d0_6:=(KX.out.below hS KX.out.lt).cell 6;have d0_7:=(KX.out.below hS KX.out.lt).cell 7;have d0_8:=(KX.out.below hS KX.out.lt).cell 8;have d0_9:=(KX.out.below hS KX.out.lt).cell 9;have d0_10:=(KX.out.below hS KX.out.lt).cell 10;have d0_11:=(KX.out.below hS KX.out.lt).cell 11;simp at d0_0 d0_1 d0_2 d0_3 d0_4 d0_5 d0_6 d0_7 d0_8 d0_9 d0_10 d0_11;have HS:=yH (hI.step yZ (k:=8) (by rfl));clear hI hS hC hW hD;go_wp2_with fail;all_goals first|exact HS|exact⟨rfl,HS⟩|rfl
  ·intro g D w' hD hW hC hI;refine⟨g,fun _ _ _=>rfl,?_⟩;with_reducible refine yO rfl ?_
   have hS:=hI.below;have HI:=yH hI;have HC:=yH (fits_any (aAw 1099511627776 [most,m2]) o.nu o.de w' H64l.out HF.out.nu HF.out.de);clear hI hS hC hW hD;go_wp2_with fail;refine HC.out.mono ?_;rintro e w'' ⟨rfl,hb2⟩;exact⟨rfl,HI.out.step hb2 (by rfl)⟩
  intro g D w' hD hW hC hI;refine⟨g,fun _ _ _=>rfl,?_⟩;with_reducible refine yO rfl ?_
  have hS:=hI.below;have HS:=yH (hI.step yZ (k:=10) (by rfl));clear hI hS hC hW hD;go_wp2_with fail;all_goals first|exact HS|exact⟨rfl,HS⟩|rfl
 intro g D w' hall hI;have B1:=yH (B.out.trans (hI.below.mono B.out.size));clear hall hI;go_wp2_with fail;go_ret;exact⟨rfl,B1.out⟩
theorem Keep.trans_new{S T:Nat→Prop}{a b c:World}(h:Keep S a b)(k:Keep T b c)(hT:∀j,j<a.heap.size→T j→S j):Keep S a c:=
 ⟨k.os.trans h.os,k.tape.trans h.tape,k.output.trans h.output,Nat.le_trans h.size k.size,fun i hi hs=>(k.block i (yM hi h.size) (fun t=>hs (hT i hi t))).trans (h.block i hi hs)⟩
theorem aI9{w:World}{b1 b2 s1 s2 n1 n2:Nat}{e1 e2:TypeId}{v1 v2:Value}{xs ys:List Value}(h:w.ownsRow b1 e1 s1 v1 n1 xs)(g:w.ownsRow b2 e2 s2 v2 n2 ys)(hne:e1≠e2):∀b,v1.ownBlock=some b→¬v2.ownBlock=some b:=fun b hb hg=>by
 obtain⟨_,_,c1,k1⟩:=aAh h hb;obtain⟨_,_,c2,k2⟩:=aAh g hg;have:=k1.symm.trans k2;simp at this;exact hne this.2
def aDz:Prop:=∀{w:World} {base G M gb:Nat} {ps:List Int} {ls:List Ln} {l:List Of} {N:Int} {vb:Value},LedM w G M ps ls→LInv ps ls→PB w base gb l N vb→BInv l N→
 ∀(s tk pt want most m1 m2:Int),(0≤s∧s≤18446744073709551615)→In8 tk→In8 pt→In64 want→In64 most→(∀o,aA3 l s=some o→Goes ps ls o tk pt m1 m2)→
 Calls Tryz.prog 32 #[.agg #[.pointer (some ⟨G,0,none⟩),.pointer (some ⟨gb,0,none⟩)],.int .u64 s,.int .u8 tk,.int .u8 pt,.int .i64 want,.int .i64 most] w (yR w (.int .i64 (mayV l ps s tk pt want most m1 m2)))def FDoPost(w:World)(base G M gb:Nat)(ps:List Int)(ls:List Ln)(l:List Of)(N:Int)(vb:Value)(s tk pt n m1 m2:Int)(e:Ending)(w':World):Prop:=
 (¬doOk l ps s tk pt n m1 m2∧e=.returned (.tuple #[aG0,.int .i64 1])∧Below w.heap.size w w')∨
 (doOk l ps s tk pt n m1 m2∧∃o x ls' vb',aA3 l s=some o∧x=upN (n*o.nu) o.de∧aG1 ps ls o tk pt n x ls'∧e=.returned (.tuple #[.agg #[.int .u64 s,.int .u8 tk,.int .u8 pt,.int .i64 n,.int .i64 x],.int .i64 0])∧
  LedM w' G M ps ls'∧PB w' base gb (aCe l s n) N vb'∧Keep (fun k=>k=G∨k=M∨Foot gb vb k) w w'∧aC9 w vb vb')
def aFm:Prop:=∀{w:World} {base G M gb:Nat} {ps:List Int} {ls:List Ln} {l:List Of} {N:Int} {vb:Value},LedM w G M ps ls→LInv ps ls→PB w base gb l N vb→BInv l N→
 ∀(s tk pt n m1 m2:Int),(0≤s∧s≤18446744073709551615)→In8 tk→In8 pt→In64 n→(∀o,aA3 l s=some o→Goes ps ls o tk pt m1 m2)→
 Calls Tryz.prog 87 #[.agg #[.pointer (some ⟨G,0,none⟩),.pointer (some ⟨gb,0,none⟩)],.int .u64 s,.int .u8 tk,.int .u8 pt,.int .i64 n] w (FDoPost w base G M gb ps ls l N vb s tk pt n m1 m2)
def FCopyPost(w:World)(ps:List Int)(ls:List Ln)(l:List Of)(N:Int)(e:Ending)(w':World):Prop:=
 ∃G M gb vb,e=.returned (.agg #[.pointer (some ⟨G,0,none⟩),.pointer (some ⟨gb,0,none⟩)])∧LedM w' G M ps ls∧PB w' w.heap.size gb l N vb∧w.heap.size≤G∧w.heap.size≤M∧Below w.heap.size w w'
def aIe:Prop:=∀{w:World} {base G M gb:Nat} {ps:List Int} {ls:List Ln} {l:List Of} {N:Int} {vb:Value},LedM w G M ps ls→LInv ps ls→PB w base gb l N vb→BInv l N→
 Calls Tryz.prog 17 #[.agg #[.pointer (some ⟨G,0,none⟩),.pointer (some ⟨gb,0,none⟩)]] w (FCopyPost w ps ls l N)
theorem fmay_any{w:World}{lp:Option Addr}{e0:Int}{has:Int→Bool}(h:aCl w lp e0 has)(o:Of)(tk pt want most:Int):
  Calls Tryz.prog 80 #[filV lp o tk pt want most] w (yR w (.bool (!(tk==o.ow) && has tk && has pt && has o.ow))):=by
 have bw:=(Below.refl w.heap.size w).alloc yL (.cells (filC lp o tk pt want most) 146);have C1:=yH (h.has _ bw tk);have C2:=yH (h.has _ bw pt);have C3:=yH (h.has _ bw o.ow);have B:=yH bw;clear bw h;unfold filV;generalize has tk=x at *;generalize has pt=y at *;generalize has o.ow=z at *;have hneq:(tk != o.ow)=!(tk==o.ow):=rfl;obtain⟨q,hq⟩:∃q,(tk==o.ow)=q:=⟨_,rfl⟩;rw[hq]at hneq ⊢;clear hq
 cases q
 ·cases x
  ·go_enter Tryz.func80,Tryz.ntmps80;go_wp2_with fail;refine C1.out.mono ?_;rintro e w1 ⟨rfl,rfl⟩;go_wp2_with fail;go_ret;exact⟨rfl,B.out⟩
  cases y
  ·go_enter Tryz.func80,Tryz.ntmps80;go_wp2_with fail;refine C1.out.mono ?_;rintro e w1 ⟨rfl,rfl⟩;go_wp2_with fail;refine C2.out.mono ?_;rintro e w1 ⟨rfl,rfl⟩;go_wp2_with fail;go_ret;exact⟨rfl,B.out⟩
  go_enter Tryz.func80,Tryz.ntmps80;go_wp2_with fail;refine C1.out.mono ?_;rintro e w1 ⟨rfl,rfl⟩;go_wp2_with fail;refine C2.out.mono ?_;rintro e w1 ⟨rfl,rfl⟩;go_wp2_with fail;refine C3.out.mono ?_;rintro e w1 ⟨rfl,rfl⟩;go_wp2_with fail;go_ret;exact⟨rfl,B.out⟩
 go_enter Tryz.func80,Tryz.ntmps80;go_wp2_with fail;go_ret;exact⟨rfl,B.out⟩
theorem aLd{w:World}{lp bp:Option Addr}{e0 N:Int}{has:Int→Bool}(h:aCl w lp e0 has)(hn:∀w',Below w.heap.size w w'→Calls Tryz.prog 27 #[.pointer bp] w' fun e w''=>e=.returned (.int .u64 N)∧w'=w''):
  Calls Tryz.prog 138 #[.agg #[.pointer lp,.pointer bp]] w (yR w (.bool (!(e0==2) && !(N==0)))):=by
 have bw:=(Below.refl w.heap.size w).alloc yL (.cells #[.pointer lp,.pointer bp] 31);have C1:=yH (h.open0 _ bw);have C2:=yH (hn _ bw);have B:=yH bw;clear bw h hn;have hneq:(e0 != 2)=!(e0==2):=rfl;obtain⟨q,hq⟩:∃q,(e0==2)=q:=⟨_,rfl⟩;rw[hq]at hneq ⊢;clear hq
 cases q
 ·have hneN:(N != 0)=!(N==0):=rfl;obtain⟨r,hr⟩:∃r,(N==0)=r:=⟨_,rfl⟩;rw[hr]at hneN ⊢;clear hr;go_enter Tryz.func138,Tryz.ntmps138;go_wp2_with fail;refine C1.out.mono ?_;rintro e w1 ⟨rfl,rfl⟩;go_wp2_with fail;refine C2.out.mono ?_;rintro e w1 ⟨rfl,rfl⟩;go_wp2_with fail;go_ret;exact⟨rfl,B.out⟩
 go_enter Tryz.func138,Tryz.ntmps138;go_wp2_with fail;refine C1.out.mono ?_;rintro e w1 ⟨rfl,rfl⟩;go_wp2_with fail;go_ret;exact⟨rfl,B.out⟩
theorem fitN_zero(nu de:Int):fitN 0 nu de=0:=by
 unfold fitN;split
 ·rw[Int.zero_mul,Int.zero_ediv];rfl
 rfl
theorem aEp{n v:Int}{vs:List Int}(h:min n v<1):aAw n (v::vs)=0:=if_pos h
theorem aDp{n v:Int}{vs:List Int}(h:¬min n v<1):aAw n (v::vs)=aAw (min n v) vs:=if_neg h
theorem least4{a b c d:Int}(hb:1≤b∧b≤1099511627776)(hc:0≤c)(hd:0≤d):aAw 1099511627776 [a,b,c,d]=if a<1 then 0 else min (min (min a b) c) d:=by
 by_cases h1:min 1099511627776 a<1
 ·rw[aEp h1,if_pos (by omega)]
 rw[aDp h1,if_neg (by omega)];rw[aDp (by omega)]
 by_cases h3:min (min (min 1099511627776 a) b) c<1
 ·rw[aEp h3];omega
 rw[aDp h3]
 by_cases h4:min (min (min (min 1099511627776 a) b) c) d<1
 ·rw[aEp h4];omega
 rw[aDp h4,aAw];omega
theorem least2{a b:Int}(hb:0≤b):aAw 1099511627776 [a,b]=if a<1 then 0 else min (min a 1099511627776) b:=by
 by_cases h1:min 1099511627776 a<1
 ·rw[aEp h1,if_pos (by omega)]
 rw[aDp h1,if_neg (by omega)]
 by_cases h3:min (min 1099511627776 a) b<1
 ·rw[aEp h3];omega
 rw[aDp h3,aAw];omega
theorem least_may{o:Of}{ps:List Int}{tk pt want most m1 m2:Int}(hr:o.ow≠tk∧o.ow∈ps∧tk∈ps∧pt∈ps)(hl:1≤o.lf∧o.lf≤1099511627776)(h1:0≤m1)(h2:0≤m2):
  aAw 1099511627776 [want,o.lf,(if pt=o.ow then 1099511627776 else m1),fitN (aAw 1099511627776 [most,m2]) o.nu o.de]=mayO o ps tk pt want most m1 m2:=by
 obtain⟨r1,r2,r3,r4⟩:=hr;rw[least4 hl (by split <;> omega) fitN_nn,least2 h2];unfold mayO
 by_cases hw:want<1
 ·rw[if_pos hw,if_pos (show o.ow=tk∨o.ow∉ps∨tk∉ps∨pt∉ps∨want<1∨most<1 from .inr (.inr (.inr (.inr (.inl hw)))))]
 rw[if_neg hw]
 by_cases hm:most<1
 ·rw[if_pos hm,if_pos (show o.ow=tk∨o.ow∉ps∨tk∉ps∨pt∉ps∨want<1∨most<1 from .inr (.inr (.inr (.inr (.inr hm))))),fitN_zero]
  by_cases hp:pt=o.ow
  ·rw[if_pos hp];omega
  rw[if_neg hp];omega
 rw[if_neg hm,if_neg (show ¬(o.ow=tk∨o.ow∉ps∨tk∉ps∨pt∉ps∨want<1∨most<1)from fun h=>by
  rcases h with h|h|h|h|h|h
  ·exact r1 h
  ·exact h r2
  ·exact h r3
  ·exact h r4
  ·exact hw h
  exact hm h)]
 by_cases hp:pt=o.ow
 ·rw[if_pos hp,if_pos hp];omega
 rw[if_neg hp,if_neg hp]
theorem hmay_none{w:World}{lp bp:Option Addr}{s:Int}(hf:∀w',Below w.heap.size w w'→Calls Tryz.prog 22 #[.pointer bp,.int .u64 s] w' fun e w''=>e=.returned (.tuple #[noOf.val,.bool false])∧Below w'.heap.size w' w'')(tk pt want most:Int):
  Calls Tryz.prog 32 #[.agg #[.pointer lp,.pointer bp],.int .u64 s,.int .u8 tk,.int .u8 pt,.int .i64 want,.int .i64 most] w (yR w (.int .i64 0)):=by
 have bw:=(Below.refl w.heap.size w).alloc yL (.cells #[.pointer lp,.pointer bp] 31);have CF:=yH (hf _ bw);have KX:=yH (pAA w #[.pointer lp,.pointer bp] 31);have B0:=yH bw;clear bw hf;unfold noOf Of.val at CF;dsimp only at CF;go_enter Tryz.func32,Tryz.ntmps32;go_wp2_with fail;generalize w.alloc (.cells #[.pointer lp,.pointer bp] 31)=W at *;refine CF.out.mono ?_;rintro e w1 ⟨rfl,b1⟩;have KX1:=yB KX b1;have B1:=yT B0 b1;clear b1 KX B0 CF;have e0:=KX1.out.cell 0;have e1:=KX1.out.cell 1;have kx:=KX1.out.lt;simp at e0 e1;go_wp2_with fail;go_ret;refine⟨rfl,B1.out.trans ?_⟩;exact((Below.alloc ((Below.refl w1.heap.size w1).alloc yL _) (by simp) _)).mono B1.out.size
theorem hmay_any(HM:aCs):aDz:=by
 intro w base G M gb ps ls l N vb hL hI hP hJ s tk pt want most m1 m2 hs ht hto hw hmo hG
 cases hf:aA3 l s with
 | none=>
  have e:mayV l ps s tk pt want most m1 m2=0:=by unfold mayV;rw[hf]
  rw[e];refine hmay_none (fun w' k=>?_) tk pt want most;have:=aF1 (hP.below k) hJ.n1 s;rw[hf]at this;exact this
 | some o=>
  have bw:=(Below.refl w.heap.size w).alloc yL (.cells #[.pointer (some ⟨G,0,none⟩),.pointer (some ⟨gb,0,none⟩)] 31);have CF:=yH (aF1 (hP.below bw) hJ.n1 s);rw[hf]at CF;have KX:=yH (pAA w #[.pointer (some ⟨G,0,none⟩),.pointer (some ⟨gb,0,none⟩)] 31);have B0:=yH bw;have L0:=yH (hL.below bw);have II:=yH hI;have HGo:=yH (hG o hf);have hmem:=(aCf hf).1;have HF:=yH (hJ.fits hmem);have MY:=yH (hJ.may o hmem);obtain⟨R,hR⟩:∃R,mayV l ps s tk pt want most m1 m2=R:=⟨_,rfl⟩;rw[hR];have EV:Hid (R=mayO o ps tk pt want most m1 m2):=yH (by rw[←hR];unfold mayV;rw[hf]);clear hR;have HT:=yH ht;have HTo:=yH hto;have HW:=yH hw;have HMo:=yH hmo;have HMP:=yH HM;clear bw hL hI hP hJ hs ht hto hw hmo hG hf hmem HM;unfold foundV Of.val at CF;dsimp only at CF;go_enter Tryz.func32,Tryz.ntmps32;go_wp2_with fail;generalize w.alloc (.cells #[.pointer (some ⟨G,0,none⟩),.pointer (some ⟨gb,0,none⟩)] 31)=W at *;refine CF.out.mono ?_;rintro e w1 ⟨rfl,b1⟩;have KX1:=yB KX b1;have B1:=yT B0 b1;have L1:=yH (L0.out.below b1);clear b1 KX B0 CF L0;have e0:=KX1.out.cell 0;have e1:=KX1.out.cell 1;have kx:=KX1.out.lt;simp at e0 e1;have ba:=(Below.refl w1.heap.size w1).alloc yL (.cells #[.int .u64 o.se,.int .u8 o.ow,.int .u8 o.sl,.int .u8 o.bu,.int .i64 o.lf,.int .i64 o.nu,.int .i64 o.de] 48);have KF0:=yH (pAC (w1.alloc (.cells #[.int .u64 o.se,.int .u8 o.ow,.int .u8 o.sl,.int .u8 o.bu,.int .i64 o.lf,.int .i64 o.nu,.int .i64 o.de] 48)) (filC (some ⟨G,0,none⟩) o tk pt want most) 146 (g:=w1.heap.size+1) (by simp));have bb:=ba.alloc (by simp) (.cells (filC (some ⟨G,0,none⟩) o tk pt want most) 146);have L2:=yH (L1.out.below bb);have B2:=yT B1 bb;have CM:=yH (fmay_any (aDx L2.out II.out) o tk pt want most);clear ba bb L1;go_wp2_with fail;generalize (w1.alloc (.cells #[.int .u64 o.se,.int .u8 o.ow,.int .u8 o.sl,.int .u8 o.bu,.int .i64 o.lf,.int .i64 o.nu,.int .i64 o.de] 48)).alloc (.cells #[.pointer (some ⟨G,0,none⟩),.int .u64 o.se,.int .u8 o.ow,.int .u8 o.sl,.int .u8 o.bu,.int .i64 o.lf,.int .i64 o.nu,.int .i64 o.de,.int .u8 tk,.int .u8 pt,.int .i64 want,.int .i64 most] 146)=W2 at *;clear e0 e1 kx;obtain⟨r,hr⟩:∃r,(!(tk==o.ow) && decide (tk∈ps) && decide (pt∈ps) && decide (o.ow∈ps))=r:=⟨_,rfl⟩;rw[hr]at CM
  cases r
  ·have EZ:Hid (R=0):=yH (by
    rw[EV.out];unfold mayO;rw[if_pos]
    by_cases c1:o.ow=tk
    ·exact .inl c1
    by_cases c2:o.ow∈ps
    ·by_cases c3:tk∈ps
     ·by_cases c4:pt∈ps
      ·have c5:¬tk=o.ow:=fun h=>c1 h.symm
       simp[c2,c3,c4,c5]at hr
      exact .inr (.inr (.inr (.inl c4)))
     exact .inr (.inr (.inl c3))
    exact .inr (.inl c2))
   clear hr EV;refine CM.out.mono ?_;rintro e w3 ⟨rfl,b3⟩;have B3:=yT B2 b3;clear b3;go_wp2_with fail;go_ret;exact⟨by rw[EZ.out];rfl,B3.out⟩
  have hok:o.ow≠tk∧o.ow∈ps∧tk∈ps∧pt∈ps:=by
   simp only[Bool.and_eq_true,Bool.not_eq_true',decide_eq_true_eq,beq_eq_false_iff_ne,ne_eq]at hr;obtain⟨⟨⟨h1,h2⟩,h3⟩,h4⟩:=hr;exact⟨fun h=>h1 h.symm,h4,h2,h3⟩
  have hb:=HGo.out.bd II.out;have EM:=yH (EV.out.trans (least_may (want:=want) (most:=most) hok MY.out.2.2.2.2.1 hb.1.1 hb.2.1).symm);have HS1:Hid (In64 (if pt=o.ow then 1099511627776 else m1)):=yH (by split <;> exact⟨by omega,by omega⟩);have HL1:Hid (In64 (aAw 1099511627776 [most,m2])):=yH (aId _ (by omega) (by omega) (by intro v hv;simp only[yI,yJ,or_false]at hv;rcases hv with rfl|rfl;exact HMo.out.1;omega))
  have HFt:Hid (In64 (fitN (aAw 1099511627776 [most,m2]) o.nu o.de)):=yH (by
   have h0:=fitN_nn (g:=aAw 1099511627776 [most,m2]) (nu:=o.nu) (de:=o.de);refine⟨by omega,?_⟩;unfold fitN;split <;> omega)
  clear hr EV hok hb;refine CM.out.mono ?_;rintro e w3 ⟨rfl,b3⟩;have KF3:=yB KF0 b3;have L3:=yH (L2.out.below b3);have B3:=yT B2 b3;clear b3 KF0 L2 B2 CM;have d0:=KF3.out.cell 0;have d1:=KF3.out.cell 1;have d2:=KF3.out.cell 2;have d3:=KF3.out.cell 3;have d4:=KF3.out.cell 4;have d5:=KF3.out.cell 5;have d6:=KF3.out.cell 6;have d7:=KF3.out.cell 7;have d8:=KF3.out.cell 8;have d9:=KF3.out.cell 9;have d10:=KF3.out.cell 10;have d11:=KF3.out.cell 11;have kf:=KF3.out.lt;simp at d0 d1 d2 d3 d4 d5 d6 d7 d8 d9 d10 d11;have HB1:Hid (Bnd w3 (filV (some ⟨G,0,none⟩) o tk pt want most) (82,want)):=yH ⟨enters_of Tryz.func82 (by kernel_rfl) rfl,fun w' k=>aMt _ o tk pt want most w'⟩;have HB2:Hid (Bnd w3 (filV (some ⟨G,0,none⟩) o tk pt want most) (83,o.lf)):=yH ⟨enters_of Tryz.func83 (by kernel_rfl) rfl,fun w' k=>fleft_any _ o tk pt want most w'⟩;have HB3:Hid (Bnd w3 (filV (some ⟨G,0,none⟩) o tk pt want most) (84,if pt=o.ow then 1099511627776 else m1)):=yH ⟨enters_of Tryz.func84 (by kernel_rfl) rfl,fun w' k=>fsold_any HMP.out (L3.out.below k) II.out HF.out tk pt want most HTo.out HGo.out⟩;have HB4:Hid (Bnd w3 (filV (some ⟨G,0,none⟩) o tk pt want most) (85,fitN (aAw 1099511627776 [most,m2]) o.nu o.de)):=yH ⟨enters_of Tryz.func85 (by kernel_rfl) rfl,fun w' k=>ffits_any HMP.out (L3.out.below k) II.out HF.out tk pt want most HT.out HMo.out HGo.out⟩;have bk:=(Below.refl w3.heap.size w3).alloc yL (.cells #[.func (.func 82) #[filV (some ⟨G,0,none⟩) o tk pt want most] #[],.func (.func 83) #[filV (some ⟨G,0,none⟩) o tk pt want most] #[],.func (.func 84) #[filV (some ⟨G,0,none⟩) o tk pt want most] #[],.func (.func 85) #[filV (some ⟨G,0,none⟩) o tk pt want most] #[]] 148);have kk:=pAA w3 #[.func (.func 82) #[filV (some ⟨G,0,none⟩) o tk pt want most] #[],.func (.func 83) #[filV (some ⟨G,0,none⟩) o tk pt want most] #[],.func (.func 84) #[filV (some ⟨G,0,none⟩) o tk pt want most] #[],.func (.func 85) #[filV (some ⟨G,0,none⟩) o tk pt want most] #[]] 148
  have CL:=yH (aLb (bs:=[(82,want),(83,o.lf),(84,if pt=o.ow then 1099511627776 else m1),(85,fitN (aAw 1099511627776 [most,m2]) o.nu o.de)]) (rv:=filV (some ⟨G,0,none⟩) o tk pt want most) kk
   (by intro b hb;simp only[yI,yJ,or_false]at hb;rcases hb with rfl|rfl|rfl|rfl;exact HB1.out.below bk;exact HB2.out.below bk;exact HB3.out.below bk;exact HB4.out.below bk)
   (by intro b hb;simp only[yI,yJ,or_false]at hb;rcases hb with rfl|rfl|rfl|rfl;exact HW.out;exact HF.out.lf;exact HS1.out;exact HFt.out) (by simp))
  have B4:=yT B3 bk;rw[show List.map (fun x:Nat×Int=>x.2) [(82,want),(83,o.lf),(84,if pt=o.ow then 1099511627776 else m1),(85,fitN (aAw 1099511627776 [most,m2]) o.nu o.de)]=[want,o.lf,if pt=o.ow then 1099511627776 else m1,fitN (aAw 1099511627776 [most,m2]) o.nu o.de]from rfl,←EM.out]at CL;clear bk kk HB1 HB2 HB3 HB4;go_wp2_with fail;refine CL.out.mono ?_;rintro e w4 ⟨rfl,b4⟩;have B5:=yT B4 b4;clear b4 d0 d1 d2 d3 d4 d5 d6 d7 d8 d9 d10 d11 kf;go_wp2_with fail;go_ret;exact⟨rfl,B5.out⟩
theorem aG2{w:World}{g h:Nat}{cs ds:Array Value}{t u:TypeId}(a:Blk w g cs t)(b:Blk w h ds u)(hn:t≠u):g≠h:=by
 rintro rfl;have e:=a.out;rw[b.out]at e;simp only[Option.some.injEq,Obj.cells.injEq]at e;exact hn e.2.1.symm
theorem RefL.apart{w:World}{base r G M:Nat}{ps ps':List Int}{ls ls':List Ln}{vp vl:Value}(hL:LedM w G M ps ls)(hR:RefL w base r ps' ls' vp vl):
  (r≠G∧r≠M)∧(∀b,vp.ownBlock=some b→b≠G∧b≠M∧b≠r)∧(∀b,vl.ownBlock=some b→b≠G∧b≠M∧b≠r):=by
 refine⟨⟨aG2 hR.blk hL.blk (by decide),fun e=>hL.map.ne_blk hR.blk e.symm⟩,fun b hb=>?_,fun b hb=>?_⟩
 ·obtain⟨_,_,cur,hc⟩:=aAh hR.p hb;have hbk:Blk w b cur 43:=hc;exact⟨aG2 hbk hL.blk (by decide),fun e=>hL.map.ne_blk hbk e.symm,aG2 hbk hR.blk (by decide)⟩
 obtain⟨_,_,cur,hc⟩:=aAh hR.l hb;have hbk:Blk w b cur 115:=hc;exact⟨aG2 hbk hL.blk (by decide),fun e=>hL.map.ne_blk hbk e.symm,aG2 hbk hR.blk (by decide)⟩
def Trio(G M r:Nat)(b:Nat):Prop:=b=G∨b=M∨b=r
structure Both(W:World)(G M base r X:Nat)(xs:Array Value)(ps P:List Int)(ls L:List Ln)(c1 c2:Nat)(D:Nat→Bool)(w:World):Prop where
 keep:Keep (Trio G M r) W w
 x:Blk w X xs 99
 led:LedM w G M (cond (D c1) P ps) (cond (D c1) L ls)
 ref:∃vp vl,RefL w base r (cond (D c2) P ps) (cond (D c2) L ls) vp vl
theorem Both.two{W w w':World}{G M base r X:Nat}{xs:Array Value}{ps P:List Int}{ls L:List Ln}{c1 c2:Nat}{D:Nat→Bool}(h:Both W G M base r X xs ps P ls L c1 c2 D w)(hc:c1≠c2)(hl:∃vp vl,RefL w' base r P L vp vl)(hk:Keep (·=r) w w'):Both W G M base r X xs ps P ls L c1 c2 (ins c2 D) w':=by
 obtain⟨vp,vl,hr⟩:=h.ref;obtain⟨⟨a1,a2⟩,a3,a4⟩:=RefL.apart h.led hr;have e1:ins c2 D c1=D c1:=by simp[ins,hc]
 have e2:ins c2 D c2=true:=by simp[ins]
 refine⟨h.keep.trans (hk.mono fun b _ hb=>.inr (.inr hb)),h.x.keep hk (fun e=>aG2 h.x hr.blk (by decide) e),?_,by rw[e2];exact hl⟩;rw[e1];exact h.led.keep hk (fun e=>a1 e.symm) (fun e=>a2 e.symm)
end Go.Proofs.YtaeocliklpcgmaaGreat
