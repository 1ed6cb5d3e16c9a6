/- Pieces of one proof. -/
import Derived.Test.YtojbmnbphdcjfaaGreatP33
import Derived.Laws.EntriesVeiled
import Derived.Shelf.Abstract
set_option linter.all false
set_option maxHeartbeats 64000000
set_option maxRecDepth 100000
namespace Go.Proofs.YtojbmnbphdcjfaaGreat
open Go.RowKit
def SfAt(W:World)(n:Nat)(i:Value)(wr:World):Prop:=∃k:Nat,k≤n∧i=.int .i64 k∧Below W.heap.size W wr
theorem aIv{w:World}{ao bo:Option Addr}{c1 c2:Nat}{tk pt:Int}{fs:List Fl}(h1:aOk w ao tk pt fs)(h2:aOk w bo tk pt fs)(hlen:fs.length≤1000):
  Calls Tryz.prog 13 #[.slice ao fs.length c1,.slice bo fs.length c2] w (yR w (.bool true)):=by
 have H1:=yH h1;have H2:=yH h2;clear h1 h2;have qz:((fs.length:Int) != (fs.length:Int))=false:=by simp
 go_enter Tryz.func13,Tryz.ntmps13;go_wp2_with fail
 go_loopw [5] (fun i wr=>SfAt w fs.length i wr) (fun i _=>fs.length - (intOf i).toNat)
 case atStart=>exact⟨0,by omega,rfl,yZ⟩
 obtain⟨k,hk,rfl,hb⟩:=hrel
 by_cases hkl:k<fs.length
 ·have hki:(k:Int)<(fs.length:Int):=by omega
  have hk0:(0:Int)≤(k:Int):=by omega
  have q0:decide ((k:Int)<(fs.length:Int))=true:=by simpa using hkl
  obtain⟨b,hbb,hc⟩:=H1.out k hkl;obtain⟨d,hdd,hd⟩:=H2.out k hkl;subst hbb hdd;obtain⟨hbl,hcj⟩:=hc wr hb;obtain⟨hdl,hdj⟩:=hd wr hb;have p0:=hcj 0 (by omega);have p1:=hcj 1 (by omega);have p2:=hcj 2 (by omega);have p3:=hcj 3 (by omega);have p4:=hcj 4 (by omega);have r0:=hdj 0 (by omega);have r1:=hdj 1 (by omega);have r2:=hdj 2 (by omega);have r3:=hdj 3 (by omega);have r4:=hdj 4 (by omega);generalize fs[k]=f at *;obtain⟨se,got,x⟩:=f;simp only[Fl.vals,List.getElem?_cons_zero,List.getElem?_cons_succ]at p0 p1 p2 p3 p4 r0 r1 r2 r3 r4;rw[Nat.add_zero]at p0 r0;have BB:=yH hb;have HK:=yH hkl;clear hb hc hcj hd hdj hkl;go_wp2_with fail
  go_quiet (fail)
  go_wp2_with fail;exact⟨⟨k+1,by have:=HK.out;omega,by go_num,⟨BB.out.os,BB.out.tape,BB.out.output,BB.out.size,BB.out.block⟩⟩,by simp[intOf];have:=HK.out;omega⟩
 have hkn:k=fs.length:=by omega
 subst hkn;have q0:decide (((fs.length:Nat):Int)<(fs.length:Int))=false:=by simp
 have BB:=yH hb;clear hb;go_wp2_with fail;go_ret;exact⟨rfl,BB.out⟩
theorem aQe{ps:List Int}{tk pt get give:Int}(C:SwS→Prop)(hs:∀σ s k,C σ→¬σ.n≤0→aBh ps σ.ls σ.l tk pt σ.n 1099511627776 (aBu σ.l get give)=some (s,k)→¬σ.fs.length=64→C (aGc ps tk pt σ s k)):∀(fuel:Nat) {σ:SwS},C σ→C (aBe ps tk pt get give fuel σ).2
 | fuel,σ,h=>by
  by_cases hn:σ.n≤0
  ·rw[aEp hn];exact h
  cases hf:aBh ps σ.ls σ.l tk pt σ.n 1099511627776 (aBu σ.l get give)with
  | none=>rw[aEq hn hf];exact h
  | some sk=>
   obtain⟨s,k⟩:=sk
   by_cases hl:σ.fs.length=64
   ·rw[aFp hn hf hl];exact h
   cases fuel with
   | zero=>
    have e:aBe ps tk pt get give 0 σ=(13,σ):=by
     unfold aBe;rw[if_neg hn,hf];simp only[];rw[if_neg hl]
    rw[e];exact h
   | succ fuel=>rw[aD8 hn hf hl];exact aQe C hs fuel (hs σ s k h hn hf hl)
theorem swapN_ok{ps:List Int}{tk pt get give:Int}:∀(fuel:Nat) {σ:SwS},(aBe ps tk pt get give fuel σ).1=0→(aBe ps tk pt get give fuel σ).2.n≤0
 | fuel,σ,h=>by
  by_cases hn:σ.n≤0
  ·rw[aEp hn];exact hn
  cases hf:aBh ps σ.ls σ.l tk pt σ.n 1099511627776 (aBu σ.l get give)with
  | none=>rw[aEq hn hf]at h;exact absurd h (by show ¬(11:Int)=0;decide)
  | some sk=>
   obtain⟨s,k⟩:=sk
   by_cases hl:σ.fs.length=64
   ·rw[aFp hn hf hl]at h;exact absurd h (by show ¬(13:Int)=0;decide)
   cases fuel with
   | zero=>
    have e:aBe ps tk pt get give 0 σ=(13,σ):=by
     unfold aBe;rw[if_neg hn,hf];simp only[];rw[if_neg hl]
    rw[e]at h;exact absurd h (by show ¬(13:Int)=0;decide)
   | succ fuel=>
    rw[aD8 hn hf hl]at h ⊢;exact swapN_ok fuel h
structure SwDone(ps:List Int)(ls:List Ln)(l:List Of)(N fr pt get give n most:Int)(σ:SwS):Prop where
 inv:aE5 ps ls l N fr pt get give n σ
 got:(σ.fs.map Fl.got).sum=n
 given:(σ.fs.map Fl.gi).sum≤most
 len:σ.fs.length≤64
 may:aB5 fr pt get give n most
 parts:fr∈ps∧pt∈ps
 is:aBe ps fr pt get give 64 ⟨ls,l,[],n⟩=(0,σ)
theorem swapF_done{ps:List Int}{ls:List Ln}{l:List Of}{N fr pt get give n most:Int}{σ:SwS}(hI:LInv ps ls)(hJ:BInv l N)(h:aBm ps ls l fr pt get give n most=(0,σ)):SwDone ps ls l N fr pt get give n most σ:=by
 unfold aBm at h
 by_cases hm:aB5 fr pt get give n most
 ·rw[if_neg (fun q=>q hm)]at h
  by_cases hp:fr∉ps∨pt∉ps
  ·rw[if_pos hp]at h;exact absurd (congrArg Prod.fst h) (by show ¬(7:Int)=0;decide)
  rw[if_neg hp]at h
  by_cases he:(aBe ps fr pt get give 64 ⟨ls,l,[],n⟩).1≠0
  ·rw[if_pos he]at h;exact absurd (congrArg Prod.fst h) he
  rw[if_neg he]at h;have he:=Decidable.not_not.1 he
  by_cases hg:most<((aBe ps fr pt get give 64 ⟨ls,l,[],n⟩).2.fs.map Fl.gi).sum
  ·rw[if_pos hg]at h;exact absurd (congrArg Prod.fst h) (by show ¬(12:Int)=0;decide)
  rw[if_neg hg]at h;have hn1:=swapN_ok 64 he;have hinv:=aE5.ends (tk:=fr) (pt:=pt) (get:=get) (give:=give) 64 (aE5.start hI hJ (tk:=fr) (pt:=pt) (get:=get) (give:=give) (n0:=n))
  have hn2:0≤(aBe ps fr pt get give 64 ⟨ls,l,[],n⟩).2.n∧(aBe ps fr pt get give 64 ⟨ls,l,[],n⟩).2.fs.length≤64:=by
   have:=aQe (ps:=ps) (tk:=fr) (pt:=pt) (get:=get) (give:=give) (fun σ=>aE5 ps ls l N fr pt get give n σ∧0≤σ.n∧σ.fs.length≤64) (fun σ s k hc hn hf hl=>by
    obtain⟨i1,i2,i3⟩:=hc;obtain⟨a,b,c,⟨o,ho,_,_⟩,d⟩:=i1.step hf;refine⟨d,?_,?_⟩
    ·unfold aGc;rw[ho];show 0≤σ.n - k;omega
    unfold aGc;rw[ho];show(σ.fs++[_]).length≤64;rw[List.length_append,List.length_singleton];omega) 64 (σ:=⟨ls,l,[],n⟩) ⟨aE5.start hI hJ,by have:=hm.2.2.2.2.2.1.1;show 0≤n;omega,by simp⟩
   exact this.2
  rw[h]at hn1 hn2 hg hinv;dsimp only at hn1 hn2 hg hinv;refine⟨hinv,?_,by show _≤most;omega,hn2.2,hm,⟨Decidable.not_not.1 fun q=>hp (.inl q),Decidable.not_not.1 fun q=>hp (.inr q)⟩,h⟩;have:=hinv.sum;have q1:σ.n≤0:=hn1;have q2:0≤σ.n:=hn2.1;omega
 rw[if_pos hm]at h;exact absurd (congrArg Prod.fst h) (by show ¬(1:Int)=0;decide)
def aBt:Int→List Int→Int
 | n,[]=>n
 | n,v::vs=>if min n v<1 then 0 else aBt (min n v) vs
structure Bnd(w:World)(rv:Value)(b:Nat×Int):Prop where
 enter:∀args w',(callFunc b.1 args).run Tryz.prog w'=.ok (.enter b.1 args) w'
 call:∀w',Below w.heap.size w w'→Calls Tryz.prog b.1 #[rv] w' fun e w''=>e=.returned (.int .i64 b.2)∧Below w'.heap.size w' w''
theorem Bnd.below{w w':World}{rv:Value}{b:Nat×Int}(h:Bnd w rv b)(k:Below w.heap.size w w'):Bnd w' rv b:=⟨h.enter,fun w2 q=>h.call w2 (andB k q)⟩
def bndV(rv:Value)(b:Nat×Int):Value:=.func (.func b.1) #[rv] #[]
def LeastAt(W:World)(bs:List (Nat×Int))(n i:Value)(wr:World):Prop:=
 ∃(k:Nat) (m:Int),k≤bs.length∧i=.int .i64 k∧n=.int .i64 m∧(m≤1099511627776 ∧ -9223372036854775808≤m)∧Below W.heap.size W wr∧Hid (aBt 1099511627776 (bs.map (·.2))=aBt m ((bs.drop k).map (·.2)))
theorem aQf{w:World}{g:Nat}{rv:Value}{bs:List (Nat×Int)}{t:TypeId}(hk:Blk w g (bs.map (bndV rv)).toArray t)(hb:∀b∈bs,Bnd w rv b)(h64:∀b∈bs,In64 b.2)(hl:bs.length≤100):
  Calls Tryz.prog 118 #[.slice (some ⟨g,0,none⟩) bs.length bs.length] w (yR w (.int .i64 (aBt 1099511627776 (bs.map (·.2))))):=by
 have K:=yH hk;have HB:=yH hb;have H64:=yH h64;clear hk hb h64;go_enter Tryz.func118,Tryz.ntmps118;go_wp2_with fail
 go_loopw [3,8] (LeastAt w bs) (fun _ i _=>bs.length - (intOf i).toNat)
 case atStart=>exact⟨0,_,by omega,rfl,rfl,by omega,yZ,yH rfl⟩
 obtain⟨k,m,hkl,rfl,rfl,⟨m1,m2⟩,hB,HE⟩:=hrel;have BB:=yH hB;clear hB
 by_cases hlt:k<bs.length
 ·have hki:(k:Int)<(bs.length:Int):=by omega
  have hk0:(0:Int)≤(k:Int):=by omega
  have q0:decide ((k:Int)<(bs.length:Int))=true:=by simpa using hlt
  have KK:=yH (K.out.below BB.out K.out.lt);have d0:=KK.out.cell k;have kl:=KK.out.lt;simp only[List.getElem?_toArray,List.getElem?_map,List.getElem?_eq_getElem hlt,Option.map_some]at d0;have HBk:=yH ((HB.out bs[k] (List.getElem_mem _)).below BB.out);have h64:=H64.out bs[k] (List.getElem_mem _);have HD:Hid (bs.drop k=bs[k]::bs.drop (k+1)):=yH (List.drop_eq_getElem_cons hlt);generalize bs[k]=b at *;obtain⟨f,v⟩:=b;unfold bndV at d0;dsimp only at d0 h64;have hv1:=h64.1;have hv2:=h64.2;clear h64;have CB:=yH (HBk.out.call wr yZ);have EN:=HBk.out.enter #[rv] wr;dsimp only at CB EN;have HM:Hid (aBt m (((f,v)::bs.drop (k+1)).map (·.2))=if min m v<1 then 0 else aBt (min m v) ((bs.drop (k+1)).map (·.2))):=yH rfl;clear HBk;go_wp2_with fail;refine CB.out.mono ?_;rintro e w1 ⟨rfl,b1⟩;have B1:=yT BB b1;clear b1 CB EN d0 kl
  by_cases hz:min m v<1
  ·have q1:decide (min m v<1)=true:=by simpa using hz
   have HZ:=yH hz;clear hz;go_wp2_with fail;go_ret;exact⟨by rw[HE.out,HD.out,HM.out.trans (if_pos HZ.out)];rfl,B1.out⟩
  have q1:decide (min m v<1)=false:=by simpa using hz
  have HZ:=yH hz;clear hz;go_wp2_with fail;exact⟨⟨k+1,_,by omega,by go_num,rfl,by omega,B1.out,yH (by rw[HE.out,HD.out];exact HM.out.trans (if_neg (by have:=HZ.out;omega)))⟩,by simp[intOf];omega⟩
 have hkn:k=bs.length:=by omega
 subst hkn;have q0:decide (((bs.length:Nat):Int)<(bs.length:Int))=false:=by simp
 have HM:Hid (aBt m ((bs.drop bs.length).map (·.2))=m):=yH (by rw[List.drop_length];rfl);go_wp2_with fail;go_ret;exact⟨by rw[HE.out,HM.out];rfl,BB.out⟩
abbrev filV(lp:Option Addr)(o:Of)(tk pt want most:Int):Value:=.agg #[.pointer lp,.int .u64 o.se,.int .u8 o.ow,.int .u8 o.sl,.int .u8 o.bu,.int .i64 o.lf,.int .i64 o.nu,.int .i64 o.de,.int .u8 tk,.int .u8 pt,.int .i64 want,.int .i64 most]
abbrev filC(lp:Option Addr)(o:Of)(tk pt want most:Int):Array Value:=#[.pointer lp,.int .u64 o.se,.int .u8 o.ow,.int .u8 o.sl,.int .u8 o.bu,.int .i64 o.lf,.int .i64 o.nu,.int .i64 o.de,.int .u8 tk,.int .u8 pt,.int .i64 want,.int .i64 most]
theorem aSm(lp:Option Addr)(o:Of)(tk pt want most:Int)(w:World):Calls Tryz.prog 119 #[filV lp o tk pt want most] w (yR w (.int .i64 want)):=by
 have B:=yH ((Below.refl w.heap.size w).alloc yL (.cells (filC lp o tk pt want most) 183));unfold filV;go_enter Tryz.func119,Tryz.ntmps119;go_wp2_with fail;go_ret;exact⟨rfl,B.out⟩
theorem fleft_any(lp:Option Addr)(o:Of)(tk pt want most:Int)(w:World):Calls Tryz.prog 120 #[filV lp o tk pt want most] w (yR w (.int .i64 o.lf)):=by
 have B:=yH ((Below.refl w.heap.size w).alloc yL (.cells (filC lp o tk pt want most) 183));unfold filV;go_enter Tryz.func120,Tryz.ntmps120;go_wp2_with fail;go_ret;exact⟨rfl,B.out⟩
theorem aQg(lp:Option Addr)(o:Of)(tk pt want most:Int)(w:World):Calls Tryz.prog 171 #[filV lp o tk pt want most] w (yR w (.int .i64 most)):=by
 have B:=yH ((Below.refl w.heap.size w).alloc yL (.cells (filC lp o tk pt want most) 183));unfold filV;go_enter Tryz.func171,Tryz.ntmps171;go_wp2_with fail;go_ret;exact⟨rfl,B.out⟩
theorem fsold_any(HM:aEk){w:World}{G M:Nat}{ps:List Int}{ls:List Ln}{o:Of}(h:LedM w G M ps ls)(hI:LInv ps ls)(hf:o.Fits)(tk pt want most:Int)(hp:In8 pt){m1 m2:Int}(g:Goes ps ls o tk pt m1 m2):
  Calls Tryz.prog 121 #[filV (some ⟨G,0,none⟩) o tk pt want most] w fun e w'=>e=.returned (.int .i64 (if pt=o.ow then 1099511627776 else m1))∧Below w.heap.size w w':=by
 have bw:=(Below.refl w.heap.size w).alloc yL (.cells (filC (some ⟨G,0,none⟩) o tk pt want most) 183);have B:=yH bw;obtain⟨⟨μ,h1,h2⟩,_⟩:=g;have CM:=yH (aMv HM (h.below bw) hI hf.ow hp hf.sl h1);rw[h2]at CM;clear bw h hI hf hp h1 h2;unfold filV
 by_cases he:pt=o.ow
 ·rw[if_pos he];subst he;have q0:(o.ow==o.ow)=true:=by simp
  clear CM;go_enter Tryz.func121,Tryz.ntmps121;go_wp2_with fail;go_ret;exact⟨rfl,B.out⟩
 rw[if_neg he];have q0:(pt==o.ow)=false:=by simpa using he
 clear he;go_enter Tryz.func121,Tryz.ntmps121;go_wp2_with fail;refine CM.out.mono ?_;rintro e w1 ⟨rfl,b1⟩;have B1:=yT B b1;clear b1;go_wp2_with fail;go_ret;exact⟨rfl,B1.out⟩
theorem aSn(HM:aEk){w:World}{G M:Nat}{ps:List Int}{ls:List Ln}{o:Of}(h:LedM w G M ps ls)(hI:LInv ps ls)(hf:o.Fits)(tk pt want most:Int)(ht:In8 tk){m1 m2:Int}(g:Goes ps ls o tk pt m1 m2):
  Calls Tryz.prog 172 #[filV (some ⟨G,0,none⟩) o tk pt want most] w (yR w (.int .i64 m2)):=by
 have bw:=(Below.refl w.heap.size w).alloc yL (.cells (filC (some ⟨G,0,none⟩) o tk pt want most) 183);have B:=yH bw;obtain⟨_,μ,h1,h2⟩:=g;have CM:=yH (aMv HM (h.below bw) hI ht hf.ow hf.bu h1);rw[h2]at CM;clear bw h hI hf ht h1 h2;unfold filV;go_enter Tryz.func172,Tryz.ntmps172;go_wp2_with fail;refine CM.out.mono ?_;rintro e w1 ⟨rfl,b1⟩;have B1:=yT B b1;clear b1;go_wp2_with fail;go_ret;exact⟨rfl,B1.out⟩
theorem aL1:∀(vs:List Int) {n:Int},n≤1099511627776 → -9223372036854775808≤n→(∀v∈vs,-9223372036854775808≤v)→In64 (aBt n vs)
 | [],n,h1,h2,_=>⟨by unfold aBt;omega,by unfold aBt;omega⟩
 | v::vs,n,h1,h2,h=>by
  unfold aBt;split
  ·exact⟨by omega,by omega⟩
  rename_i hz;have:=h v (List.mem_cons_self);exact aL1 vs (by omega) (by omega) (fun x hx=>h x (List.mem_cons_of_mem _ hx))
theorem ffits_any(HM:aEk){w:World}{G M:Nat}{ps:List Int}{ls:List Ln}{o:Of}(h:LedM w G M ps ls)(hI:LInv ps ls)(hf:o.Fits)(tk pt want most:Int)(ht:In8 tk)(hm:In64 most){m1 m2:Int}(g:Goes ps ls o tk pt m1 m2):
  Calls Tryz.prog 122 #[filV (some ⟨G,0,none⟩) o tk pt want most] w (yR w (.int .i64 (fitN (aBt 1099511627776 [most,m2]) o.nu o.de))):=by
 have bw:=(Below.refl w.heap.size w).alloc yL (.cells (filC (some ⟨G,0,none⟩) o tk pt want most) 183);have KX:=yH (pAA w (filC (some ⟨G,0,none⟩) o tk pt want most) 183);have B:=yH bw;have hbd:=g.bd hI;have H64a:=yH hm;have H64b:Hid (In64 m2):=yH ⟨by omega,by omega⟩;have H64l:Hid (In64 (aBt 1099511627776 [most,m2])):=yH (aL1 _ (by omega) (by omega) (by intro v hv;simp only[yI,yJ,or_false]at hv;rcases hv with rfl|rfl;exact hm.1;omega));have HF:=yH hf;have L:=h.below bw
 have HA:Hid (Bnd (w.alloc (.cells (filC (some ⟨G,0,none⟩) o tk pt want most) 183)) (filV (some ⟨G,0,none⟩) o tk pt want most) (171,most)):=yH
  ⟨enters_of Tryz.func171 (by kernel_rfl) rfl,fun w' k=>aQg _ o tk pt want most w'⟩
 have HBo:Hid (Bnd (w.alloc (.cells (filC (some ⟨G,0,none⟩) o tk pt want most) 183)) (filV (some ⟨G,0,none⟩) o tk pt want most) (172,m2)):=yH
  ⟨enters_of Tryz.func172 (by kernel_rfl) rfl,fun w' k=>aSn HM (L.below k) hI hf tk pt want most ht g⟩
 clear bw h hI hf hm hbd L g;go_enter Tryz.func122,Tryz.ntmps122
 go_upto_region 1 with fail
 generalize w.alloc (.cells #[.pointer (some ⟨G,0,none⟩),.int .u64 o.se,.int .u8 o.ow,.int .u8 o.sl,.int .u8 o.bu,.int .i64 o.lf,.int .i64 o.nu,.int .i64 o.de,.int .u8 tk,.int .u8 pt,.int .i64 want,.int .i64 most] 183)=W at *
 refine aA4 (by kernel_rfl) (fun g:Nat→Nat=>[(filV (some ⟨G,0,none⟩) o tk pt want most),(.func (.func 171) #[(filV (some ⟨G,0,none⟩) o tk pt want most)] #[]),(filV (some ⟨G,0,none⟩) o tk pt want most),(.func (.func 172) #[(filV (some ⟨G,0,none⟩) o tk pt want most)] #[]),(.slice (some ⟨g 4,0,none⟩) 2 2),(.int .i64 (aBt 1099511627776 [most,m2])),(.pointer (some ⟨w.heap.size,1,none⟩)),(.pointer (some ⟨w.heap.size,6,none⟩)),(.agg #[.int .i64 o.nu,.int .i64 o.de]),(.int .i64 (fitN (aBt 1099511627776 [most,m2]) o.nu o.de)),(.int .i64 (fitN (aBt 1099511627776 [most,m2]) o.nu o.de))])
  (Lays W [(⟨4,4,(.cells #[(.func (.func 171) #[(filV (some ⟨G,0,none⟩) o tk pt want most)] #[]),(.func (.func 172) #[(filV (some ⟨G,0,none⟩) o tk pt want most)] #[])] 185),(.cells #[(.func (.func 171) #[(filV (some ⟨G,0,none⟩) o tk pt want most)] #[]),(.func (.func 172) #[(filV (some ⟨G,0,none⟩) o tk pt want most)] #[])] 185)⟩:Spec)]) (by kernel_rfl) (fun _=>0) (Lays.start _ _ _) ?_
 intro AF hAF;simp only[yG,puts,Act.put,yA,yC,yF,yD,yE]at hAF;have hAF2:_=AF:=funext hAF;subst hAF2;clear hAF;refine⟨?_,?_⟩
 ·simp only[yG,aEr];refine⟨?_,?_,?_,?_,?_,?_,?_,?_,?_,?_,?_,trivial⟩
  ·intro g D w' hD hW hC hI;refine⟨g,fun _ _ _=>rfl,?_⟩;with_reducible refine yO rfl ?_
   have hS:=hI.below;have hl0:=yM KX.out.lt hS.size;have d0_0:=(KX.out.below hS KX.out.lt).cell 0;have d0_1:=(KX.out.below hS KX.out.lt).cell 1;have d0_2:=(KX.out.below hS KX.out.lt).cell 2;have d0_3:=(KX.out.below hS KX.out.lt).cell 3;have d0_4:=(KX.out.below hS KX.out.lt).cell 4;have d0_5:=(KX.out.below hS KX.out.lt).cell 5;have d0_6:=(KX.out.below hS KX.out.lt).cell 6;have d0_7:=(KX.out.below hS KX.out.lt).cell 7;have d0_8:=(KX.out.below hS KX.out.lt).cell 8;have d0_9:=(KX.out.below hS KX.out.lt).cell 9;have d0_10:=(KX.out.below hS KX.out.lt).cell 10;have d0_11:=(KX.out.below hS KX.out.lt).cell 11;simp at d0_0 d0_1 d0_2 d0_3 d0_4 d0_5 d0_6 d0_7 d0_8 d0_9 d0_10 d0_11;have HS:=yH (hI.step yZ (k:=0) (by rfl));clear hI hS hC hW hD;go_wp2_with fail;all_goals first|exact HS|exact⟨rfl,HS⟩|rfl
  ·intro g D w' hD hW hC hI;refine⟨g,fun _ _ _=>rfl,?_⟩;with_reducible refine yO rfl ?_
   have hS:=hI.below;have HS:=yH (hI.step yZ (k:=1) (by rfl));clear hI hS hC hW hD;go_wp2_with fail;all_goals first|exact HS|exact⟨rfl,HS⟩|rfl
  ·intro g D w' hD hW hC hI;refine⟨g,fun _ _ _=>rfl,?_⟩;with_reducible refine yO rfl ?_
   have hS:=hI.below;have hl0:=yM KX.out.lt hS.size;have d0_0:=(KX.out.below hS KX.out.lt).cell 0;have d0_1:=(KX.out.below hS KX.out.lt).cell 1;have d0_2:=(KX.out.below hS KX.out.lt).cell 2;have d0_3:=(KX.out.below hS KX.out.lt).cell 3;have d0_4:=(KX.out.below hS KX.out.lt).cell 4;have d0_5:=(KX.out.below hS KX.out.lt).cell 5;have d0_6:=(KX.out.below hS KX.out.lt).cell 6;have d0_7:=(KX.out.below hS KX.out.lt).cell 7;have d0_8:=(KX.out.below hS KX.out.lt).cell 8;have d0_9:=(KX.out.below hS KX.out.lt).cell 9;have d0_10:=(KX.out.below hS KX.out.lt).cell 10;have d0_11:=(KX.out.below hS KX.out.lt).cell 11;simp at d0_0 d0_1 d0_2 d0_3 d0_4 d0_5 d0_6 d0_7 d0_8 d0_9 d0_10 d0_11;have HS:=yH (hI.step yZ (k:=2) (by rfl));clear hI hS hC hW hD;go_wp2_with fail;all_goals first|exact HS|exact⟨rfl,HS⟩|rfl
  ·intro g D w' hD hW hC hI;refine⟨g,fun _ _ _=>rfl,?_⟩;with_reducible refine yO rfl ?_
   have hS:=hI.below;have HS:=yH (hI.step yZ (k:=3) (by rfl));clear hI hS hC hW hD;go_wp2_with fail;all_goals first|exact HS|exact⟨rfl,HS⟩|rfl
  ·intro g D w' hD hW hC hI;refine⟨upd g 4 w'.heap.size,aDr _ (fun g:Nat→Nat=>[(filV (some ⟨G,0,none⟩) o tk pt want most),(.func (.func 171) #[(filV (some ⟨G,0,none⟩) o tk pt want most)] #[]),(filV (some ⟨G,0,none⟩) o tk pt want most),(.func (.func 172) #[(filV (some ⟨G,0,none⟩) o tk pt want most)] #[]),(.slice (some ⟨g 4,0,none⟩) 2 2),(.int .i64 (aBt 1099511627776 [most,m2])),(.pointer (some ⟨w.heap.size,1,none⟩)),(.pointer (some ⟨w.heap.size,6,none⟩)),(.agg #[.int .i64 o.nu,.int .i64 o.de]),(.int .i64 (fitN (aBt 1099511627776 [most,m2]) o.nu o.de)),(.int .i64 (fitN (aBt 1099511627776 [most,m2]) o.nu o.de))]) g 4 _ 12 hC hD ?_,?_⟩
   ·intro j hj
    match j,hj with
    | 0,_=>exact .inr rfl
    | 1,_=>exact .inr rfl
    | 2,_=>exact .inr rfl
    | 3,_=>exact .inr rfl
    | 4,_=>exact .inl (.inl rfl)
    | 5,_=>exact .inr rfl
    | 6,_=>exact .inr rfl
    | 7,_=>exact .inr rfl
    | 8,_=>exact .inr rfl
    | 9,_=>exact .inr rfl
    | 10,_=>exact .inr rfl
    | j+11,_=>exact .inr rfl
   with_reducible refine yO rfl ?_
   have HS:=yH (hI.lay (⟨4,4,(.cells #[(.func (.func 171) #[(filV (some ⟨G,0,none⟩) o tk pt want most)] #[]),(.func (.func 172) #[(filV (some ⟨G,0,none⟩) o tk pt want most)] #[])] 185),(.cells #[(.func (.func 171) #[(filV (some ⟨G,0,none⟩) o tk pt want most)] #[]),(.func (.func 172) #[(filV (some ⟨G,0,none⟩) o tk pt want most)] #[])] 185)⟩:Spec) (by simp) (by rfl) (.inl rfl) (by rfl) (fun s' hs' _=>List.mem_singleton.1 hs') (.cells #[(.func (.func 171) #[(filV (some ⟨G,0,none⟩) o tk pt want most)] #[]),(.func (.func 172) #[(filV (some ⟨G,0,none⟩) o tk pt want most)] #[])] 185) rfl);clear hI hC hW hD;go_wp2_with fail;all_goals first|exact HS|exact⟨rfl,HS⟩|rfl
  ·intro g D w' hD hW hC hI;refine⟨g,fun _ _ _=>rfl,?_⟩;with_reducible refine yO rfl ?_
   have hS:=hI.below;have HI:=yH hI;have HC:=yH (aQf (bs:=[(171,most),(172,m2)]) (rv:=(filV (some ⟨G,0,none⟩) o tk pt want most)) (show Blk w' (g 4) (List.map (bndV (filV (some ⟨G,0,none⟩) o tk pt want most)) [(171,most),(172,m2)]).toArray 185 from(hI.full (⟨4,4,(.cells #[(.func (.func 171) #[(filV (some ⟨G,0,none⟩) o tk pt want most)] #[]),(.func (.func 172) #[(filV (some ⟨G,0,none⟩) o tk pt want most)] #[])] 185),(.cells #[(.func (.func 171) #[(filV (some ⟨G,0,none⟩) o tk pt want most)] #[]),(.func (.func 172) #[(filV (some ⟨G,0,none⟩) o tk pt want most)] #[])] 185)⟩:Spec) (by simp) (aBg hC hW (d:=12) (by kernel_rfl)) (aBg hC hW (d:=12) (by kernel_rfl))).2) (by intro b hb;simp only[yI,yJ,or_false]at hb;rcases hb with rfl|rfl;exact HA.out.below hS;exact HBo.out.below hS) (by intro b hb;simp only[yI,yJ,or_false]at hb;rcases hb with rfl|rfl;exact H64a.out;exact H64b.out) (by simp));clear hI hS hC hW hD;go_wp2_with fail;refine HC.out.mono ?_;rintro e w'' ⟨rfl,hb2⟩;exact⟨rfl,HI.out.step hb2 (by rfl)⟩
  ·intro g D w' hD hW hC hI;refine⟨g,fun _ _ _=>rfl,?_⟩;with_reducible refine yO rfl ?_
   have hS:=hI.below;have HS:=yH (hI.step yZ (k:=6) (by rfl));clear hI hS hC hW hD;go_wp2_with fail;all_goals first|exact HS|exact⟨rfl,HS⟩|rfl
  ·intro g D w' hD hW hC hI;refine⟨g,fun _ _ _=>rfl,?_⟩;with_reducible refine yO rfl ?_
   have hS:=hI.below;have HS:=yH (hI.step yZ (k:=7) (by rfl));clear hI hS hC hW hD;go_wp2_with fail;all_goals first|exact HS|exact⟨rfl,HS⟩|rfl
  ·intro g D w' hD hW hC hI;refine⟨g,fun _ _ _=>rfl,?_⟩;with_reducible refine yO rfl ?_
   have hS:=hI.below;have hl0:=yM KX.out.lt hS.size;have d0_0:=(KX.out.below hS KX.out.lt).cell 0;have d0_1:=(KX.out.below hS KX.out.lt).cell 1;have d0_2:=(KX.out.below hS KX.out.lt).cell 2;have d0_3:=(KX.out.below hS KX.out.lt).cell 3;have d0_4:=(KX.out.below hS KX.out.lt).cell 4;have d0_5:=(KX.out.below hS KX.out.lt).cell 5;have d0_6:=(KX.out.below hS KX.out.lt).cell 6;have d0_7:=(KX.out.below hS KX.out.lt).cell 7;have d0_8:=(KX.out.below hS KX.out.lt).cell 8;have d0_9:=(KX.out.below hS KX.out.lt).cell 9;have d0_10:=(KX.out.below hS KX.out.lt).cell 10;have d0_11:=(KX.out.below hS KX.out.lt).cell 11;simp at d0_0 d0_1 d0_2 d0_3 d0_4 d0_5 d0_6 d0_7 d0_8 d0_9 d0_10 d0_11;have HS:=yH (hI.step yZ (k:=8) (by rfl));clear hI hS hC hW hD;go_wp2_with fail;all_goals first|exact HS|exact⟨rfl,HS⟩|rfl
  ·intro g D w' hD hW hC hI;refine⟨g,fun _ _ _=>rfl,?_⟩;with_reducible refine yO rfl ?_
   have hS:=hI.below;have HI:=yH hI;have HC:=yH (fits_any (aBt 1099511627776 [most,m2]) o.nu o.de w' H64l.out HF.out.nu HF.out.de);clear hI hS hC hW hD;go_wp2_with fail;refine HC.out.mono ?_;rintro e w'' ⟨rfl,hb2⟩;exact⟨rfl,HI.out.step hb2 (by rfl)⟩
  intro g D w' hD hW hC hI;refine⟨g,fun _ _ _=>rfl,?_⟩;with_reducible refine yO rfl ?_
  have hS:=hI.below;have HS:=yH (hI.step yZ (k:=10) (by rfl));clear hI hS hC hW hD;go_wp2_with fail;all_goals first|exact HS|exact⟨rfl,HS⟩|rfl
 intro g D w' hall hI;have B1:=yH (B.out.trans (hI.below.mono B.out.size));clear hall hI;go_wp2_with fail;go_ret;exact⟨rfl,B1.out⟩
theorem fmay_any{w:World}{lp:Option Addr}{e0:Int}{has:Int→Bool}(h:aFb w lp e0 has)(o:Of)(tk pt want most:Int):
  Calls Tryz.prog 117 #[filV lp o tk pt want most] w (yR w (.bool (!(tk==o.ow) && has tk && has pt && has o.ow))):=by
 have bw:=(Below.refl w.heap.size w).alloc yL (.cells (filC lp o tk pt want most) 183);have C1:=yH (h.has _ bw tk);have C2:=yH (h.has _ bw pt);have C3:=yH (h.has _ bw o.ow);have B:=yH bw;clear bw h;unfold filV;generalize has tk=x at *;generalize has pt=y at *;generalize has o.ow=z at *;have hneq:(tk != o.ow)=!(tk==o.ow):=rfl;obtain⟨q,hq⟩:∃q,(tk==o.ow)=q:=⟨_,rfl⟩;rw[hq]at hneq ⊢;clear hq
 cases q
 ·cases x
  ·go_enter Tryz.func117,Tryz.ntmps117;go_wp2_with fail;refine C1.out.mono ?_;rintro e w1 ⟨rfl,rfl⟩;go_wp2_with fail;go_ret;exact⟨rfl,B.out⟩
  cases y
  ·go_enter Tryz.func117,Tryz.ntmps117;go_wp2_with fail;refine C1.out.mono ?_;rintro e w1 ⟨rfl,rfl⟩;go_wp2_with fail;refine C2.out.mono ?_;rintro e w1 ⟨rfl,rfl⟩;go_wp2_with fail;go_ret;exact⟨rfl,B.out⟩
  go_enter Tryz.func117,Tryz.ntmps117;go_wp2_with fail;refine C1.out.mono ?_;rintro e w1 ⟨rfl,rfl⟩;go_wp2_with fail;refine C2.out.mono ?_;rintro e w1 ⟨rfl,rfl⟩;go_wp2_with fail;refine C3.out.mono ?_;rintro e w1 ⟨rfl,rfl⟩;go_wp2_with fail;go_ret;exact⟨rfl,B.out⟩
 go_enter Tryz.func117,Tryz.ntmps117;go_wp2_with fail;go_ret;exact⟨rfl,B.out⟩
theorem aQh{w:World}{lp bp:Option Addr}{e0 N:Int}{has:Int→Bool}(h:aFb w lp e0 has)(hn:∀w',Below w.heap.size w w'→Calls Tryz.prog 72 #[.pointer bp] w' fun e w''=>e=.returned (.int .u64 N)∧w'=w''):
  Calls Tryz.prog 125 #[.agg #[.pointer lp,.pointer bp]] w (yR w (.bool (!(e0==2) && !(N==0)))):=by
 have bw:=(Below.refl w.heap.size w).alloc yL (.cells #[.pointer lp,.pointer bp] 32);have C1:=yH (h.open0 _ bw);have C2:=yH (hn _ bw);have B:=yH bw;clear bw h hn;have hneq:(e0 != 2)=!(e0==2):=rfl;obtain⟨q,hq⟩:∃q,(e0==2)=q:=⟨_,rfl⟩;rw[hq]at hneq ⊢;clear hq
 cases q
 ·have hneN:(N != 0)=!(N==0):=rfl;obtain⟨r,hr⟩:∃r,(N==0)=r:=⟨_,rfl⟩;rw[hr]at hneN ⊢;clear hr;go_enter Tryz.func125,Tryz.ntmps125;go_wp2_with fail;refine C1.out.mono ?_;rintro e w1 ⟨rfl,rfl⟩;go_wp2_with fail;refine C2.out.mono ?_;rintro e w1 ⟨rfl,rfl⟩;go_wp2_with fail;go_ret;exact⟨rfl,B.out⟩
 go_enter Tryz.func125,Tryz.ntmps125;go_wp2_with fail;refine C1.out.mono ?_;rintro e w1 ⟨rfl,rfl⟩;go_wp2_with fail;go_ret;exact⟨rfl,B.out⟩
theorem fitN_zero(nu de:Int):fitN 0 nu de=0:=by
 unfold fitN;split
 ·rw[Int.zero_mul,Int.zero_ediv];rfl
 rfl
theorem aGz{n v:Int}{vs:List Int}(h:min n v<1):aBt n (v::vs)=0:=if_pos h
theorem aFq{n v:Int}{vs:List Int}(h:¬min n v<1):aBt n (v::vs)=aBt (min n v) vs:=if_neg h
theorem least4{a b c d:Int}(hb:1≤b∧b≤1099511627776)(hc:0≤c)(hd:0≤d):aBt 1099511627776 [a,b,c,d]=if a<1 then 0 else min (min (min a b) c) d:=by
 by_cases h1:min 1099511627776 a<1
 ·rw[aGz h1,if_pos (by omega)]
 rw[aFq h1,if_neg (by omega)];rw[aFq (by omega)]
 by_cases h3:min (min (min 1099511627776 a) b) c<1
 ·rw[aGz h3];omega
 rw[aFq h3]
 by_cases h4:min (min (min (min 1099511627776 a) b) c) d<1
 ·rw[aGz h4];omega
 rw[aFq h4,aBt];omega
theorem least2{a b:Int}(hb:0≤b):aBt 1099511627776 [a,b]=if a<1 then 0 else min (min a 1099511627776) b:=by
 by_cases h1:min 1099511627776 a<1
 ·rw[aGz h1,if_pos (by omega)]
 rw[aFq h1,if_neg (by omega)]
 by_cases h3:min (min 1099511627776 a) b<1
 ·rw[aGz h3];omega
 rw[aFq h3,aBt];omega
theorem least_may{o:Of}{ps:List Int}{tk pt want most m1 m2:Int}(hr:o.ow≠tk∧o.ow∈ps∧tk∈ps∧pt∈ps)(hl:1≤o.lf∧o.lf≤1099511627776)(h1:0≤m1)(h2:0≤m2):
  aBt 1099511627776 [want,o.lf,(if pt=o.ow then 1099511627776 else m1),fitN (aBt 1099511627776 [most,m2]) o.nu o.de]=mayO o ps tk pt want most m1 m2:=by
 obtain⟨r1,r2,r3,r4⟩:=hr;rw[least4 hl (by split <;> omega) fitN_nn,least2 h2];unfold mayO
 by_cases hw:want<1
 ·rw[if_pos hw,if_pos (show o.ow=tk∨o.ow∉ps∨tk∉ps∨pt∉ps∨want<1∨most<1 from .inr (.inr (.inr (.inr (.inl hw)))))]
 rw[if_neg hw]
 by_cases hm:most<1
 ·rw[if_pos hm,if_pos (show o.ow=tk∨o.ow∉ps∨tk∉ps∨pt∉ps∨want<1∨most<1 from .inr (.inr (.inr (.inr (.inr hm))))),fitN_zero]
  by_cases hp:pt=o.ow
  ·rw[if_pos hp];omega
  rw[if_neg hp];omega
 rw[if_neg hm,if_neg (show ¬(o.ow=tk∨o.ow∉ps∨tk∉ps∨pt∉ps∨want<1∨most<1)from fun h=>by
  rcases h with h|h|h|h|h|h
  ·exact r1 h
  ·exact h r2
  ·exact h r3
  ·exact h r4
  ·exact hw h
  exact hm h)]
 by_cases hp:pt=o.ow
 ·rw[if_pos hp,if_pos hp];omega
 rw[if_neg hp,if_neg hp]
theorem hmay_none{w:World}{lp bp:Option Addr}{s:Int}(hf:∀w',Below w.heap.size w w'→Calls Tryz.prog 24 #[.pointer bp,.int .u64 s] w' fun e w''=>e=.returned (.tuple #[noOf.val,.bool false])∧Below w'.heap.size w' w'')(tk pt want most:Int):
  Calls Tryz.prog 65 #[.agg #[.pointer lp,.pointer bp],.int .u64 s,.int .u8 tk,.int .u8 pt,.int .i64 want,.int .i64 most] w (yR w (.int .i64 0)):=by
 have bw:=(Below.refl w.heap.size w).alloc yL (.cells #[.pointer lp,.pointer bp] 32);have CF:=yH (hf _ bw);have KX:=yH (pAA w #[.pointer lp,.pointer bp] 32);have B0:=yH bw;clear bw hf;unfold noOf Of.val at CF;dsimp only at CF;go_enter Tryz.func65,Tryz.ntmps65;go_wp2_with fail;generalize w.alloc (.cells #[.pointer lp,.pointer bp] 32)=W at *;refine CF.out.mono ?_;rintro e w1 ⟨rfl,b1⟩;have KX1:=yB KX b1;have B1:=yT B0 b1;clear b1 KX B0 CF;have e0:=KX1.out.cell 0;have e1:=KX1.out.cell 1;have kx:=KX1.out.lt;simp at e0 e1;go_wp2_with fail;go_ret;refine⟨rfl,B1.out.trans ?_⟩;exact((Below.alloc ((Below.refl w1.heap.size w1).alloc yL _) (by simp) _)).mono B1.out.size
theorem aOl(HM:aEk):aEm:=by
 intro w base G M gb ps ls l N vb hL hI hP hJ s tk pt want most m1 m2 hs ht hto hw hmo hG
 cases hf:aBs l s with
 | none=>
  have e:mayV l ps s tk pt want most m1 m2=0:=by unfold mayV;rw[hf]
  rw[e];refine hmay_none (fun w' k=>?_) tk pt want most;have:=aLq (hP.below k) hJ.n1 s;rw[hf]at this;exact this
 | some o=>
  have bw:=(Below.refl w.heap.size w).alloc yL (.cells #[.pointer (some ⟨G,0,none⟩),.pointer (some ⟨gb,0,none⟩)] 32);have CF:=yH (aLq (hP.below bw) hJ.n1 s);rw[hf]at CF;have KX:=yH (pAA w #[.pointer (some ⟨G,0,none⟩),.pointer (some ⟨gb,0,none⟩)] 32);have B0:=yH bw;have L0:=yH (hL.below bw);have II:=yH hI;have HGo:=yH (hG o hf);have hmem:=(aC1 hf).1;have HF:=yH (hJ.fits hmem);have MY:=yH (hJ.may o hmem);obtain⟨R,hR⟩:∃R,mayV l ps s tk pt want most m1 m2=R:=⟨_,rfl⟩;rw[hR];have EV:Hid (R=mayO o ps tk pt want most m1 m2):=yH (by rw[←hR];unfold mayV;rw[hf]);clear hR;have HT:=yH ht;have HTo:=yH hto;have HW:=yH hw;have HMo:=yH hmo;have HMP:=yH HM;clear bw hL hI hP hJ hs ht hto hw hmo hG hf hmem HM;unfold aHn Of.val at CF;dsimp only at CF;go_enter Tryz.func65,Tryz.ntmps65;go_wp2_with fail;generalize w.alloc (.cells #[.pointer (some ⟨G,0,none⟩),.pointer (some ⟨gb,0,none⟩)] 32)=W at *;refine CF.out.mono ?_;rintro e w1 ⟨rfl,b1⟩;have KX1:=yB KX b1;have B1:=yT B0 b1;have L1:=yH (L0.out.below b1);clear b1 KX B0 CF L0;have e0:=KX1.out.cell 0;have e1:=KX1.out.cell 1;have kx:=KX1.out.lt;simp at e0 e1;have ba:=(Below.refl w1.heap.size w1).alloc yL (.cells #[.int .u64 o.se,.int .u8 o.ow,.int .u8 o.sl,.int .u8 o.bu,.int .i64 o.lf,.int .i64 o.nu,.int .i64 o.de] 76);have KF0:=yH (pAC (w1.alloc (.cells #[.int .u64 o.se,.int .u8 o.ow,.int .u8 o.sl,.int .u8 o.bu,.int .i64 o.lf,.int .i64 o.nu,.int .i64 o.de] 76)) (filC (some ⟨G,0,none⟩) o tk pt want most) 183 (g:=w1.heap.size+1) (by simp));have bb:=ba.alloc (by simp) (.cells (filC (some ⟨G,0,none⟩) o tk pt want most) 183);have L2:=yH (L1.out.below bb);have B2:=yT B1 bb;have CM:=yH (fmay_any (aHx L2.out II.out) o tk pt want most);clear ba bb L1;go_wp2_with fail;generalize (w1.alloc (.cells #[.int .u64 o.se,.int .u8 o.ow,.int .u8 o.sl,.int .u8 o.bu,.int .i64 o.lf,.int .i64 o.nu,.int .i64 o.de] 76)).alloc (.cells #[.pointer (some ⟨G,0,none⟩),.int .u64 o.se,.int .u8 o.ow,.int .u8 o.sl,.int .u8 o.bu,.int .i64 o.lf,.int .i64 o.nu,.int .i64 o.de,.int .u8 tk,.int .u8 pt,.int .i64 want,.int .i64 most] 183)=W2 at *;clear e0 e1 kx;obtain⟨r,hr⟩:∃r,(!(tk==o.ow) && decide (tk∈ps) && decide (pt∈ps) && decide (o.ow∈ps))=r:=⟨_,rfl⟩;rw[hr]at CM
  cases r
  ·have EZ:Hid (R=0):=yH (by
    rw[EV.out];unfold mayO;rw[if_pos]
    by_cases c1:o.ow=tk
    ·exact .inl c1
    by_cases c2:o.ow∈ps
    ·by_cases c3:tk∈ps
     ·by_cases c4:pt∈ps
      ·have c5:¬tk=o.ow:=fun h=>c1 h.symm
       simp[c2,c3,c4,c5]at hr
      exact .inr (.inr (.inr (.inl c4)))
     exact .inr (.inr (.inl c3))
    exact .inr (.inl c2))
   clear hr EV;refine CM.out.mono ?_;rintro e w3 ⟨rfl,b3⟩;have B3:=yT B2 b3;clear b3;go_wp2_with fail;go_ret;exact⟨by rw[EZ.out];rfl,B3.out⟩
  have hok:o.ow≠tk∧o.ow∈ps∧tk∈ps∧pt∈ps:=by
   simp only[Bool.and_eq_true,Bool.not_eq_true',decide_eq_true_eq,beq_eq_false_iff_ne,ne_eq]at hr;obtain⟨⟨⟨h1,h2⟩,h3⟩,h4⟩:=hr;exact⟨fun h=>h1 h.symm,h4,h2,h3⟩
  have hb:=HGo.out.bd II.out;have EM:=yH (EV.out.trans (least_may (want:=want) (most:=most) hok MY.out.2.2.2.2.1 hb.1.1 hb.2.1).symm);have HS1:Hid (In64 (if pt=o.ow then 1099511627776 else m1)):=yH (by split <;> exact⟨by omega,by omega⟩);have HL1:Hid (In64 (aBt 1099511627776 [most,m2])):=yH (aL1 _ (by omega) (by omega) (by intro v hv;simp only[yI,yJ,or_false]at hv;rcases hv with rfl|rfl;exact HMo.out.1;omega))
  have HFt:Hid (In64 (fitN (aBt 1099511627776 [most,m2]) o.nu o.de)):=yH (by
   have h0:=fitN_nn (g:=aBt 1099511627776 [most,m2]) (nu:=o.nu) (de:=o.de);refine⟨by omega,?_⟩;unfold fitN;split <;> omega)
  clear hr EV hok hb;refine CM.out.mono ?_;rintro e w3 ⟨rfl,b3⟩;have KF3:=yB KF0 b3;have L3:=yH (L2.out.below b3);have B3:=yT B2 b3;clear b3 KF0 L2 B2 CM;have d0:=KF3.out.cell 0;have d1:=KF3.out.cell 1;have d2:=KF3.out.cell 2;have d3:=KF3.out.cell 3;have d4:=KF3.out.cell 4;have d5:=KF3.out.cell 5;have d6:=KF3.out.cell 6;have d7:=KF3.out.cell 7;have d8:=KF3.out.cell 8;have d9:=KF3.out.cell 9;have d10:=KF3.out.cell 10;have d11:=KF3.out.cell 11;have kf:=KF3.out.lt;simp at d0 d1 d2 d3 d4 d5 d6 d7 d8 d9 d10 d11;have HB1:Hid (Bnd w3 (filV (some ⟨G,0,none⟩) o tk pt want most) (119,want)):=yH ⟨enters_of Tryz.func119 (by kernel_rfl) rfl,fun w' k=>aSm _ o tk pt want most w'⟩;have HB2:Hid (Bnd w3 (filV (some ⟨G,0,none⟩) o tk pt want most) (120,o.lf)):=yH ⟨enters_of Tryz.func120 (by kernel_rfl) rfl,fun w' k=>fleft_any _ o tk pt want most w'⟩;have HB3:Hid (Bnd w3 (filV (some ⟨G,0,none⟩) o tk pt want most) (121,if pt=o.ow then 1099511627776 else m1)):=yH ⟨enters_of Tryz.func121 (by kernel_rfl) rfl,fun w' k=>fsold_any HMP.out (L3.out.below k) II.out HF.out tk pt want most HTo.out HGo.out⟩;have HB4:Hid (Bnd w3 (filV (some ⟨G,0,none⟩) o tk pt want most) (122,fitN (aBt 1099511627776 [most,m2]) o.nu o.de)):=yH ⟨enters_of Tryz.func122 (by kernel_rfl) rfl,fun w' k=>ffits_any HMP.out (L3.out.below k) II.out HF.out tk pt want most HT.out HMo.out HGo.out⟩;have bk:=(Below.refl w3.heap.size w3).alloc yL (.cells #[.func (.func 119) #[filV (some ⟨G,0,none⟩) o tk pt want most] #[],.func (.func 120) #[filV (some ⟨G,0,none⟩) o tk pt want most] #[],.func (.func 121) #[filV (some ⟨G,0,none⟩) o tk pt want most] #[],.func (.func 122) #[filV (some ⟨G,0,none⟩) o tk pt want most] #[]] 185);have kk:=pAA w3 #[.func (.func 119) #[filV (some ⟨G,0,none⟩) o tk pt want most] #[],.func (.func 120) #[filV (some ⟨G,0,none⟩) o tk pt want most] #[],.func (.func 121) #[filV (some ⟨G,0,none⟩) o tk pt want most] #[],.func (.func 122) #[filV (some ⟨G,0,none⟩) o tk pt want most] #[]] 185
  have CL:=yH (aQf (bs:=[(119,want),(120,o.lf),(121,if pt=o.ow then 1099511627776 else m1),(122,fitN (aBt 1099511627776 [most,m2]) o.nu o.de)]) (rv:=filV (some ⟨G,0,none⟩) o tk pt want most) kk
   (by intro b hb;simp only[yI,yJ,or_false]at hb;rcases hb with rfl|rfl|rfl|rfl;exact HB1.out.below bk;exact HB2.out.below bk;exact HB3.out.below bk;exact HB4.out.below bk)
   (by intro b hb;simp only[yI,yJ,or_false]at hb;rcases hb with rfl|rfl|rfl|rfl;exact HW.out;exact HF.out.lf;exact HS1.out;exact HFt.out) (by simp))
  have B4:=yT B3 bk;rw[show List.map (fun x:Nat×Int=>x.2) [(119,want),(120,o.lf),(121,if pt=o.ow then 1099511627776 else m1),(122,fitN (aBt 1099511627776 [most,m2]) o.nu o.de)]=[want,o.lf,if pt=o.ow then 1099511627776 else m1,fitN (aBt 1099511627776 [most,m2]) o.nu o.de]from rfl,←EM.out]at CL;clear bk kk HB1 HB2 HB3 HB4;go_wp2_with fail;refine CL.out.mono ?_;rintro e w4 ⟨rfl,b4⟩;have B5:=yT B4 b4;clear b4 d0 d1 d2 d3 d4 d5 d6 d7 d8 d9 d10 d11 kf;go_wp2_with fail;go_ret;exact⟨rfl,B5.out⟩
theorem aJz{w:World}{g h:Nat}{cs ds:Array Value}{t u:TypeId}(a:Blk w g cs t)(b:Blk w h ds u)(hn:t≠u):g≠h:=by
 rintro rfl;have e:=a.out;rw[b.out]at e;simp only[Option.some.injEq,Obj.cells.injEq]at e;exact hn e.2.1.symm
theorem RefL.apart{w:World}{base r G M:Nat}{ps ps':List Int}{ls ls':List Ln}{vp vl:Value}(hL:LedM w G M ps ls)(hR:RefL w base r ps' ls' vp vl):
  (r≠G∧r≠M)∧(∀b,vp.ownBlock=some b→b≠G∧b≠M∧b≠r)∧(∀b,vl.ownBlock=some b→b≠G∧b≠M∧b≠r):=by
 refine⟨⟨aJz hR.blk hL.blk (by decide),fun e=>hL.map.ne_blk hR.blk e.symm⟩,fun b hb=>?_,fun b hb=>?_⟩
 ·obtain⟨_,_,cur,hc⟩:=aAe hR.p hb;have hbk:Blk w b cur 39:=hc;exact⟨aJz hbk hL.blk (by decide),fun e=>hL.map.ne_blk hbk e.symm,aJz hbk hR.blk (by decide)⟩
 obtain⟨_,_,cur,hc⟩:=aAe hR.l hb;have hbk:Blk w b cur 112:=hc;exact⟨aJz hbk hL.blk (by decide),fun e=>hL.map.ne_blk hbk e.symm,aJz hbk hR.blk (by decide)⟩
def Trio(G M r:Nat)(b:Nat):Prop:=b=G∨b=M∨b=r
structure Both(W:World)(G M base r X:Nat)(xs:Array Value)(ps P:List Int)(ls L:List Ln)(c1 c2:Nat)(D:Nat→Bool)(w:World):Prop where
 keep:Keep (Trio G M r) W w
 x:Blk w X xs 92
 led:LedM w G M (cond (D c1) P ps) (cond (D c1) L ls)
 ref:∃vp vl,RefL w base r (cond (D c2) P ps) (cond (D c2) L ls) vp vl
theorem Both.two{W w w':World}{G M base r X:Nat}{xs:Array Value}{ps P:List Int}{ls L:List Ln}{c1 c2:Nat}{D:Nat→Bool}(h:Both W G M base r X xs ps P ls L c1 c2 D w)(hc:c1≠c2)(hl:∃vp vl,RefL w' base r P L vp vl)(hk:Keep (·=r) w w'):Both W G M base r X xs ps P ls L c1 c2 (ins c2 D) w':=by
 obtain⟨vp,vl,hr⟩:=h.ref;obtain⟨⟨a1,a2⟩,a3,a4⟩:=RefL.apart h.led hr;have e1:ins c2 D c1=D c1:=by simp[ins,hc]
 have e2:ins c2 D c2=true:=by simp[ins]
 refine⟨h.keep.trans (hk.mono fun b _ hb=>.inr (.inr hb)),h.x.keep hk (fun e=>aJz h.x hr.blk (by decide) e),?_,by rw[e2];exact hl⟩;rw[e1];exact h.led.keep hk (fun e=>a1 e.symm) (fun e=>a2 e.symm)
end Go.Proofs.YtojbmnbphdcjfaaGreat
