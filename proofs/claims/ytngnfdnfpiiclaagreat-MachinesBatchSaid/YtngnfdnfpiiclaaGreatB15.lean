/- Pieces of one proof. -/
import Derived.Test.YtngnfdnfpiiclaaGreatB14
import Derived.Defers
set_option linter.all false
set_option maxHeartbeats 64000000
set_option maxRecDepth 100000
namespace Go.Proofs.YtngnfdnfpiiclaaGreat
open Go.RowKit
structure FstW(w:World)(ch cs cw cn base G M gb:Nat)(ps:List Int)(ls:List Ln)(l:List Of)(N:Int)(vb:Value)(fr pt get give n most want x:Int):Prop where
 h:Blk w ch #[.pointer (some ⟨G,0,none⟩),.pointer (some ⟨gb,0,none⟩)] 80
 s:Blk w cs #[.int .u8 fr,.int .u8 pt,.int .u8 get,.int .u8 give,.int .i64 n,.int .i64 most] 289
 wn:Blk w cw #[.int .i64 want] 2
 x:Blk w cn #[.int .i64 x] 2
 led:LedM w G M ps ls
 book:PB w base gb l N vb
 ne:¬ch=cn∧¬cs=cn∧¬cw=cn∧¬G=cn∧¬M=cn∧¬Foot gb vb cn
theorem FstW.keep{w w':World}{ch cs cw cn base G M gb:Nat}{ps:List Int}{ls:List Ln}{l:List Of}{N:Int}{vb:Value}{fr pt get give n most want:Int}{x y:Int}(h:FstW w ch cs cw cn base G M gb ps ls l N vb fr pt get give n most want x)(k:Keep (·=cn) w w')(hx:Blk w' cn #[.int .i64 y] 2):FstW w' ch cs cw cn base G M gb ps ls l N vb fr pt get give n most want y:=by
 obtain⟨h1,h2,h3,h4,h5,h6⟩:=h.ne;exact⟨h.h.keep k h1,h.s.keep k h2,h.wn.keep k h3,hx,h.led.keep k h4 h5,h.book.keep k (fun e=>h6 (.inl e.symm)) (fun b hb e=>h6 (.inr (by rw[←e];exact hb))),h.ne⟩
theorem FstW.below{w w':World}{ch cs cw cn base G M gb:Nat}{ps:List Int}{ls:List Ln}{l:List Of}{N:Int}{vb:Value}{fr pt get give n most want:Int}{x:Int}(h:FstW w ch cs cw cn base G M gb ps ls l N vb fr pt get give n most want x)(k:Below w.heap.size w w'):FstW w' ch cs cw cn base G M gb ps ls l N vb fr pt get give n most want x:=
 h.keep (pAD k) (h.x.below k h.x.lt)
theorem first1_any(HMy:aCh)(o:Of){w:World}{ch cs cw cn base G M gb:Nat}{ps:List Int}{ls:List Ln}{l:List Of}{N:Int}{vb:Value}{fr pt get give n most want:Int}{x:Int}(h:FstW w ch cs cw cn base G M gb ps ls l N vb fr pt get give n most want x)(hI:LInv ps ls)(hJ:BInv l N)(ht:In8 fr)(hp:In8 pt)(hw:In64 want)(hs:0≤o.se∧o.se≤18446744073709551615):
  Calls Tryz.prog 272 #[.agg #[.int .u64 o.se,.int .u8 o.ow,.int .u8 o.sl,.int .u8 o.bu,.int .i64 o.lf,.int .i64 o.nu,.int .i64 o.de],.pointer (some ⟨ch,0,none⟩),.pointer (some ⟨cs,0,none⟩),.pointer (some ⟨cw,0,none⟩),.pointer (some ⟨cn,0,none⟩)] w
   fun e w'=>e=.returned (.bool (decide (0<mayS ps ls l fr pt want 1099511627776 o.se)))∧FstW w' ch cs cw cn base G M gb ps ls l N vb fr pt get give n most want (mayS ps ls l fr pt want 1099511627776 o.se)∧Keep (·=cn) w w':=by
 have b0:=(Below.refl w.heap.size w).alloc yL (.cells #[.int .u64 o.se,.int .u8 o.ow,.int .u8 o.sl,.int .u8 o.bu,.int .i64 o.lf,.int .i64 o.nu,.int .i64 o.de] 75);have KO:=yH (Blk.new w #[.int .u64 o.se,.int .u8 o.ow,.int .u8 o.sl,.int .u8 o.bu,.int .i64 o.lf,.int .i64 o.nu,.int .i64 o.de] 75);have HF:=yH (h.below b0);have B0:=yH b0;have CM:=yH (aRd HMy (h.led.below b0) hI (h.book.below b0) hJ o.se fr pt want 1099511627776 hs ht hp hw (by unfold In64;decide));obtain⟨k,hk⟩:∃k,mayS ps ls l fr pt want 1099511627776 o.se=k:=⟨_,rfl⟩;rw[hk]at CM ⊢;clear b0 h hI hJ ht hp hw hs hk;generalize hW:w.alloc (.cells #[.int .u64 o.se,.int .u8 o.ow,.int .u8 o.sl,.int .u8 o.bu,.int .i64 o.lf,.int .i64 o.nu,.int .i64 o.de] 75)=W at *;have HW:=yH hW;clear hW;have h0:=HF.out.h.cell 0;have h1:=HF.out.h.cell 1;have s0:=HF.out.s.cell 0;have s1:=HF.out.s.cell 1;have w0:=HF.out.wn.cell 0;have o0:=KO.out.cell 0;simp at h0 h1 s0 s1 w0 o0;go_enter Tryz.func272,Tryz.ntmps272
 go_upto_region 1 with fail
 rw[HW.out];go_wp2_with fail;refine CM.out.mono ?_;rintro e w1 ⟨rfl,b1⟩;have HF1:=yH (HF.out.below b1);have B1:=yT B0 b1;clear b1 h0 h1 s0 s1 w0 o0 HF KO CM B0;have x0:=HF1.out.x.cell 0;have fz:=HF1.out.x.frozen 0;have hst:=(HF1.out.x.set 0 (.int .i64 k));have c0:=hst.cell 0;simp at x0 c0;clear hst;go_wp2_with fail;go_ret;have kk:Keep (·=cn) w1 (w1.setCell ⟨cn,0,none⟩ (.int .i64 k)):=Keep.setCell (S:=(·=cn)) (Keep.refl _ _) (p:=⟨cn,0,none⟩) (.inl rfl) _;refine⟨rfl,HF1.out.keep kk (HF1.out.x.set 0 _),(pAD (S:=(·=cn)) B1.out).trans kk⟩
def IxfAt(W:World)(ch cs cw cn base G M gb:Nat)(ps:List Int)(ls:List Ln)(l:List Of)(N:Int)(vb:Value)(fr pt get give n most want:Int)(os:List Of)(i:Value)(wr:World):Prop:=
 ∃(k:Nat) (x:Int),k≤os.length∧i=.int .i64 k∧FstW wr ch cs cw cn base G M gb ps ls l N vb fr pt get give n most want x∧Keep (·=cn) W wr∧Hid (aAx ps ls l fr pt want 1099511627776 os=aAx ps ls l fr pt want 1099511627776 (os.drop k))
def IxfPost(W:World)(ch cs cw cn base G M gb:Nat)(ps:List Int)(ls:List Ln)(l:List Of)(N:Int)(vb:Value)(fr pt get give n most want:Int)(os:List Of)(e:Ending)(w':World):Prop:=
 (∃(k:Nat) (x:Int) (hk:k<os.length),e=.returned (.int .i64 k)∧FstW w' ch cs cw cn base G M gb ps ls l N vb fr pt get give n most want x∧Keep (·=cn) W w'∧aAx ps ls l fr pt want 1099511627776 os=some (os[k].se,x))∨
 (∃x:Int,e=.returned (.int .i64 (-1))∧FstW w' ch cs cw cn base G M gb ps ls l N vb fr pt get give n most want x∧Keep (·=cn) W w'∧aAx ps ls l fr pt want 1099511627776 os=none)
theorem aTv(HMy:aCh){w:World}{ch cs cw cn base b2 G M gb:Nat}{ps:List Int}{ls:List Ln}{l:List Of}{N:Int}{vb:Value}{fr pt get give n most want:Int}{x:Int}{os:List Of}{v:Value}(h:FstW w ch cs cw cn base G M gb ps ls l N vb fr pt get give n most want x)(hI:LInv ps ls)(hJ:BInv l N)(ht:In8 fr)(hp:In8 pt)(hw:In64 want)
  (hv:aBj w b2 75 7 v os.length (aAb os))(hs:∀o∈os,0≤o.se∧o.se≤18446744073709551615)(hne:∀b,v.ownBlock=some b→¬b=cn):
  Calls Tryz.prog 271 #[v,.func (.func 272) #[] #[.pointer (some ⟨ch,0,none⟩),.pointer (some ⟨cs,0,none⟩),.pointer (some ⟨cw,0,none⟩),.pointer (some ⟨cn,0,none⟩)]] w (IxfPost w ch cs cw cn base G M gb ps ls l N vb fr pt get give n most want os):=by
 obtain⟨ao,cap,rfl,hc1,hc2,hc3,hc4⟩:=hv.look;have HC:=yH hc4;have HNE:=yH hne;have HFw:=yH h;have CF:=yH (fun(o:Of) (w':World) (x:Int) (hs:0≤o.se∧o.se≤18446744073709551615) (q:FstW w' ch cs cw cn base G M gb ps ls l N vb fr pt get give n most want x)=>first1_any HMy o q hI hJ ht hp hw hs);have HS:=yH hs;unfold maxLen at hc2;clear hc3 hc4 hv h hI hJ ht hp hw hs hne;go_enter Tryz.func271,Tryz.ntmps271;go_wp2_with fail
 go_loopw [5,8] (fun _ i wr=>IxfAt w ch cs cw cn base G M gb ps ls l N vb fr pt get give n most want os i wr) (fun _ i _=>os.length - (intOf i).toNat)
 case atStart=>exact⟨0,x,Nat.zero_le _,rfl,HFw.out,Keep.refl _ _,yH rfl⟩
 obtain⟨k,x,hk,rfl,hF,hK,HE⟩:=hrel
 by_cases hkl:k<os.length
 ·have hki:(k:Int)<(os.length:Int):=by omega
  have hk0:(0:Int)≤(k:Int):=by omega
  obtain⟨b,rfl,hb1,hb2,hcell,_⟩:=HC.out (by omega);have hbn:¬b=cn:=HNE.out b rfl;obtain⟨e0,e1,e2,e3,e4,e5,e6⟩:=aCs (w:=wr) (fun j hj=>by rw[hK.cell (p:=⟨b,j,none⟩) hb2 hbn];exact hcell j hj) hkl;obtain⟨m,hm⟩:∃m,mayS ps ls l fr pt want 1099511627776 os[k].se=m:=⟨_,rfl⟩;have C1:=yH (CF.out os[k] wr x (HS.out _ (List.getElem_mem _)) hF);rw[hm]at C1
  have HD:Hid (aAx ps ls l fr pt want 1099511627776 (os.drop k)=if 0<m then some (os[k].se,m)else aAx ps ls l fr pt want 1099511627776 (os.drop (k+1))):=yH (by
   rw[List.drop_eq_getElem_cons hkl];show(if 0<mayS ps ls l fr pt want 1099511627776 os[k].se then some (os[k].se,mayS ps ls l fr pt want 1099511627776 os[k].se)else _)=_;rw[hm])
  have HK:=yH hK;have HKL:=yH hkl;clear hcell hm hF hK;generalize ho:os[k]=o at *;have HO:=yH ho;clear ho hkl
  by_cases hq:0<m
  ·rw[decide_eq_true hq]at C1;rw[if_pos hq]at HD;clear hq;go_wp2_with fail;refine C1.out.mono ?_;rintro e w2 ⟨rfl,f2,k2⟩;have HF2:=yH f2;have HK2:=yH (HK.out.trans k2);clear f2 k2 e0 e1 e2 e3 e4 e5 e6 C1;go_wp2_with fail;go_ret;exact .inl ⟨k,m,HKL.out,rfl,HF2.out,HK2.out,by rw[HE.out,HD.out];exact congrArg (fun z:Of=>some (z.se,m)) HO.out.symm⟩
  rw[decide_eq_false hq]at C1;rw[if_neg hq]at HD;clear hq;go_wp2_with fail;refine C1.out.mono ?_;rintro e w2 ⟨rfl,f2,k2⟩;have HF2:=yH f2;have HK2:=yH (HK.out.trans k2);clear f2 k2 e0 e1 e2 e3 e4 e5 e6 C1;go_wp2_with fail;go_roundw
  case rel=>exact⟨k+1,m,by have:=HKL.out;omega,by go_num,HF2.out,HK2.out,yH (by rw[HE.out,HD.out])⟩
  case measure=>simp[intOf];omega
 have hkn:k=os.length:=by omega
 have HN:Hid (aAx ps ls l fr pt want 1099511627776 (os.drop k)=none):=yH (by rw[hkn,List.drop_length];rfl);have HFl:=yH hF;have HK:=yH hK;clear hF hK;go_wp2_with fail;go_ret;exact .inr ⟨x,rfl,HFl.out,HK.out,by rw[HE.out,HN.out]⟩
theorem best_seqs{l:List Of}{N:Int}(hJ:BInv l N)(s b:Int):∀o∈aC1 l s b,0≤o.se∧o.se≤18446744073709551615:=fun o ho=>by
 have hm:=hJ.bd o (aJd hJ ho).1;have:=hJ.n2;omega
theorem pfirst_any(HMy:aCh){w:World}{base G M gb:Nat}{ps:List Int}{ls:List Ln}{l:List Of}{N:Int}{vb:Value}{fr pt get give n most want:Int}(hL:LedM w G M ps ls)(hI:LInv ps ls)(hP:PB w base gb l N vb)(hJ:BInv l N)(ht:In8 fr)(hp:In8 pt)(hg:In8 get)(hv:In8 give)(hw:In64 want):
  Calls Tryz.prog 234 #[.agg #[.int .u8 fr,.int .u8 pt,.int .u8 get,.int .u8 give,.int .i64 n,.int .i64 most],.agg #[.pointer (some ⟨G,0,none⟩),.pointer (some ⟨gb,0,none⟩)],.int .i64 want] w (yR w (.tuple #[.int .u64 ((aAx ps ls l fr pt want 1099511627776 (aC1 l get give)).getD (0,0)).1,.int .i64 ((aAx ps ls l fr pt want 1099511627776 (aC1 l get give)).getD (0,0)).2])):=by
 have hlt:=And.intro hL.blk.lt (And.intro hL.map.lt (fun b (hb:Foot gb vb b)=>(hP.lt hb).2));have b0:=(Below.refl w.heap.size w).alloc yL (.cells #[.int .u8 fr,.int .u8 pt,.int .u8 get,.int .u8 give,.int .i64 n,.int .i64 most] 289);have b1:=b0.alloc b0.size (.cells #[.pointer (some ⟨G,0,none⟩),.pointer (some ⟨gb,0,none⟩)] 80);have b2:=b1.alloc b1.size (.cells #[.int .i64 want] 2);have b3:=b2.alloc b2.size (.cells #[.int .i64 0] 2)
 have hF0:FstW ((((w.alloc (.cells #[.int .u8 fr,.int .u8 pt,.int .u8 get,.int .u8 give,.int .i64 n,.int .i64 most] 289)).alloc (.cells #[.pointer (some ⟨G,0,none⟩),.pointer (some ⟨gb,0,none⟩)] 80)).alloc (.cells #[.int .i64 want] 2)).alloc (.cells #[.int .i64 0] 2)) (w.heap.size+1) w.heap.size (w.heap.size+2) (w.heap.size+3) base G M gb ps ls l N vb fr pt get give n most want 0:=
  ⟨((pAB (w.alloc (.cells #[.int .u8 fr,.int .u8 pt,.int .u8 get,.int .u8 give,.int .i64 n,.int .i64 most] 289)) #[.pointer (some ⟨G,0,none⟩),.pointer (some ⟨gb,0,none⟩)] 80 (g:=w.heap.size+1) (by simp)).alloc _).alloc _,(((Blk.new w #[.int .u8 fr,.int .u8 pt,.int .u8 get,.int .u8 give,.int .i64 n,.int .i64 most] 289).alloc _).alloc _).alloc _,(pAB ((w.alloc (.cells #[.int .u8 fr,.int .u8 pt,.int .u8 get,.int .u8 give,.int .i64 n,.int .i64 most] 289)).alloc (.cells #[.pointer (some ⟨G,0,none⟩),.pointer (some ⟨gb,0,none⟩)] 80)) #[.int .i64 want] 2 (g:=w.heap.size+2) (by simp)).alloc _,pAB _ _ _ (by simp),hL.below b3,hP.below b3,
   by omega,by omega,by omega,by omega,by omega,fun hb=>by have:=hlt.2.2 _ hb;omega⟩
 generalize hW:(((w.alloc (.cells #[.int .u8 fr,.int .u8 pt,.int .u8 get,.int .u8 give,.int .i64 n,.int .i64 most] 289)).alloc (.cells #[.pointer (some ⟨G,0,none⟩),.pointer (some ⟨gb,0,none⟩)] 80)).alloc (.cells #[.int .i64 want] 2)).alloc (.cells #[.int .i64 0] 2)=W at *;have HW:=yH hW;have HF:=yH hF0;have B:=yH b3;have CB:=yH (aRp (hP.below b3) hJ get give)
 have CI:=yH (fun(w':World) (x:Int) (b2:Nat) (v:Value) (q:FstW w' (w.heap.size+1) w.heap.size (w.heap.size+2) (w.heap.size+3) base G M gb ps ls l N vb fr pt get give n most want x) (hv:aBj w' b2 75 7 v (aC1 l get give).length (aAb (aC1 l get give))) (hne:∀b,v.ownBlock=some b→¬b=w.heap.size+3)=>
  aTv HMy q hI hJ ht hp hw hv (best_seqs hJ get give) hne)
 clear hlt b0 b1 b2 b3 hF0 hW hL hI hP hJ ht hp hg hv hw;obtain⟨os,hos⟩:∃os,aC1 l get give=os:=⟨_,rfl⟩;rw[hos]at CB CI ⊢;clear hos;obtain⟨R,hR⟩:∃R,(aAx ps ls l fr pt want 1099511627776 os).getD (0,0)=R:=⟨_,rfl⟩;rw[hR];have HR:=yH hR;clear hR;have h0:=HF.out.h.cell 0;have h1:=HF.out.h.cell 1;have hl:=HF.out.h.lt;have s2:=HF.out.s.cell 2;have s3:=HF.out.s.cell 3;simp at h0 h1 s2 s3;go_enter Tryz.func234,Tryz.ntmps234
 go_upto_region 1 with fail
 rw[HW.out];go_wp2_with fail;refine CB.out.mono ?_;rintro e w1 ⟨v,rfl,hv,b1⟩;have HF1:=yH (HF.out.below b1);have HV:=yH hv;have B1:=yT B b1;have CX:=yH (CI.out w1 0 _ v HF1.out hv (fun b hb e=>by have:=(hv.type hb).1;have:=HF.out.x.lt;omega));have VNE:Hid (∀b,v.ownBlock=some b→¬b=w.heap.size+3):=yH (fun b hb e=>by have:=(hv.type hb).1;have:=HF.out.x.lt;omega);clear hv b1 h0 h1 hl s2 s3 HF B CB CI;go_wp2_with fail;refine CX.out.mono ?_;rintro e w2 (⟨k,x,hk,rfl,f2,k2,hfs⟩|⟨x,rfl,f2,k2,hfs⟩)
 ·have ER:Hid (R=(os[k].se,x)):=yH (by rw[←HR.out,hfs];rfl);have B2:=yH (B1.out.trans (k2.below (B:=w.heap.size) B1.out.size (fun j hj e=>by omega)));obtain⟨ao,cap,rfl,hc1,hc2,hc3,hc4⟩:=(HV.out.keep k2 VNE.out).look;obtain⟨b,rfl,hb1,hb2,hcell,_⟩:=hc4 (by omega);obtain⟨e0,_⟩:=aCs (w:=w2) hcell hk;have HF2:=yH f2;have x0:=f2.x.cell 0;have fz:=f2.x.frozen 0;have hst:=(HF2.out.x.set 0 (.int .i64 x)).cell 0;simp at x0 hst;have q0:decide ((k:Int)<0)=false:=by simp
  have q1:(0:Int)≤(k:Int)∧(k:Int)<(os.length:Int):=by omega
  obtain⟨s,hs⟩:∃s,os[k].se=s:=⟨_,rfl⟩;rw[hs]at e0 ER;clear hs f2 k2 hfs hcell hc3 hc4 HV CX;unfold maxLen at hc2;go_wp2_with fail
  go_region
  go_wp2_with fail;refine bodyPost_ret (v:=.tuple #[.int .u64 s,.int .i64 x]) (by simp[results,Tryz.results234,go_sem,hst]) rfl ?_;exact⟨by rw[ER.out],(B2.out.setCell (by show w.heap.size≤w.heap.size+3;omega) _).drew⟩
 have ER:Hid (R=(0,0)):=yH (by rw[←HR.out,hfs];rfl);have B2:=yH (B1.out.trans (k2.below (B:=w.heap.size) B1.out.size (fun j hj e=>by omega)));have x0:=f2.x.cell 0;have fz:=f2.x.frozen 0;have hst:=(f2.x.set 0 (.int .i64 0)).cell 0;simp at x0 hst;clear f2 k2 hfs HV CX;go_wp2_with fail;refine bodyPost_ret (v:=.tuple #[.int .u64 0,.int .i64 0]) (by simp[results,Tryz.results234,go_sem,hst]) rfl ?_;exact⟨by rw[ER.out],B2.out.setCell (by show w.heap.size≤w.heap.size+3;omega) _⟩
theorem info_flp:(Tryz.prog.info? 241).map (fun i=>(i.zero,i.size,i.bytes))=some (some (.agg #[.int .u64 0,.int .u8 0,.int .u8 0,.int .i64 0,.int .i64 0]),5,32):=by kernel_rfl
noncomputable def aM8(ps:List Int)(fr pt get give most:Int)(σ:SwS):Int×SwS:=
 if(aB3 ps fr pt get give 64 σ).1≠0 then aB3 ps fr pt get give 64 σ else if most<((aB3 ps fr pt get give 64 σ).2.fs.map Fl.gi).sum then(12,(aB3 ps fr pt get give 64 σ).2)else aB3 ps fr pt get give 64 σ
def FilAt(W:World)(base s1 G M gb:Nat)(ps:List Int)(ls0:List Ln)(l0:List Of)(N tk pt get give n0:Int)(av nv:Value)(wr:World):Prop:=
 ∃(σ:SwS) (vb:Value),nv=.int .i64 σ.n∧LedM wr G M ps σ.ls∧PB wr base gb σ.l N vb∧(∀b,vb.ownBlock=some b→b<s1∨W.heap.size≤b)∧wr.ownsRow W.heap.size 241 5 av σ.fs.length (aCf tk pt σ.fs)∧aE1 ps ls0 l0 N tk pt get give n0 σ∧σ.fs.length≤64∧
  Keep (fun k=>base≤k∧k<s1) W wr∧Hid (aB3 ps tk pt get give 64 ⟨ls0,l0,[],n0⟩=aB3 ps tk pt get give (64 - σ.fs.length) σ)
def PFil(w:World)(base G M gb:Nat)(ps:List Int)(ls:List Ln)(l:List Of)(N fr pt get give n most:Int)(e:Ending)(w':World):Prop:=
 (∃(er:Int) (a:Option Addr) (k c:Nat),er≠0∧(aM8 ps fr pt get give most ⟨ls,l,[],n⟩).1=er∧e=.returned (.tuple #[.slice a k c,.int .i64 er])∧Below base w w')∨
 (∃(vb:Value) (a:Option Addr) (c:Nat) (σ:SwS),aM8 ps fr pt get give most ⟨ls,l,[],n⟩=(0,σ)∧e=.returned (.tuple #[.slice a σ.fs.length c,.int .i64 0])∧LedM w' G M ps σ.ls∧PB w' base gb σ.l N vb∧aBj w' w.heap.size 241 5 (.slice a σ.fs.length c) σ.fs.length (aCf fr pt σ.fs)∧Below base w w')
theorem pfill_any(HMy:aCh)(HD:aD1){w:World}{base G M gb:Nat}{ps:List Int}{ls:List Ln}{l:List Of}{N:Int}{vb:Value}(hL:LedM w G M ps ls)(hI:LInv ps ls)(hP:PB w base gb l N vb)(hJ:BInv l N)(hG:base≤G)(hM:base≤M)(hb:base≤w.heap.size)
  (fr pt get give n most:Int)(hf:In8 fr)(ht:In8 pt)(hg:In8 get)(hv:In8 give)(hn:1≤n∧n≤1099511627776)(hm:1≤most∧most≤1099511627776):
  Calls Tryz.prog 198 #[.agg #[.int .u8 fr,.int .u8 pt,.int .u8 get,.int .u8 give,.int .i64 n,.int .i64 most],.agg #[.pointer (some ⟨G,0,none⟩),.pointer (some ⟨gb,0,none⟩)]] w (PFil w base G M gb ps ls l N fr pt get give n most):=by
 have b1:=(Below.refl w.heap.size w).alloc yL (.cells #[.int .u8 fr,.int .u8 pt,.int .u8 get,.int .u8 give,.int .i64 n,.int .i64 most] 289);have b2:=b1.alloc b1.size (.cells #[.pointer (some ⟨G,0,none⟩),.pointer (some ⟨gb,0,none⟩)] 80);have KS:=yH ((Blk.new w #[.int .u8 fr,.int .u8 pt,.int .u8 get,.int .u8 give,.int .i64 n,.int .i64 most] 289).alloc (.cells #[.pointer (some ⟨G,0,none⟩),.pointer (some ⟨gb,0,none⟩)] 80));have KH:=yH (pAB (w.alloc (.cells #[.int .u8 fr,.int .u8 pt,.int .u8 get,.int .u8 give,.int .i64 n,.int .i64 most] 289)) #[.pointer (some ⟨G,0,none⟩),.pointer (some ⟨gb,0,none⟩)] 80 (g:=w.heap.size+1) (by simp));have HL:=yH (hL.below b2);have HP:=yH (hP.below b2);have B:=yH b2;have GE:=yH (show base≤G∧base≤M∧base≤w.heap.size∧G<w.heap.size∧M<w.heap.size∧gb<w.heap.size∧base≤gb∧(∀b,vb.ownBlock=some b→b<w.heap.size)from⟨hG,hM,hb,hL.blk.lt,hL.map.lt,hP.blk.lt,hP.ge,fun b hb=>(hP.lt (.inr hb)).2⟩);have II:=yH hI;have JJ:=yH hJ;have HF:=yH hf;have HTo:=yH ht;have HGe:=yH hg;have HGi:=yH hv;have HN:=yH hn;have HWS:Hid (((w.alloc (.cells #[.int .u8 fr,.int .u8 pt,.int .u8 get,.int .u8 give,.int .i64 n,.int .i64 most] 289)).alloc (.cells #[.pointer (some ⟨G,0,none⟩),.pointer (some ⟨gb,0,none⟩)] 80)).heap.size=w.heap.size+2):=yH (by simp);clear b1 b2 hL hI hP hJ hG hM hb hf ht hg hv hn hm;generalize hW:(w.alloc (.cells #[.int .u8 fr,.int .u8 pt,.int .u8 get,.int .u8 give,.int .i64 n,.int .i64 most] 289)).alloc (.cells #[.pointer (some ⟨G,0,none⟩),.pointer (some ⟨gb,0,none⟩)] 80)=W at *;have HW:=yH hW;clear hW;have s4:=KS.out.cell 4;simp at s4;go_enter Tryz.func198,Tryz.ntmps198
 go_upto_region 1 with fail
 rw[HW.out];go_wp2_with fail
 go_loopw [4,6,7,8,9,10] (fun av nv _ _ _ _ wr=>FilAt W base w.heap.size G M gb ps ls l N fr pt get give n av nv wr) (fun _ nv _ _ _ _ _=>(intOf nv).toNat)
 case atStart=>exact⟨⟨ls,l,[],n⟩,vb,rfl,HL.out,HP.out,fun b hb=>.inl (GE.out.2.2.2.2.2.2.2 b hb),World.ownsRow_nil _ _ _ _,aE1.start II.out JJ.out,by simp,Keep.refl _ _,yH rfl⟩
 obtain⟨σ,vb,rfl,hRL,hRB,hVB,hO,hS,hlen,hK,HE⟩:=hrel;have RL:=yH hRL;have RB:=yH hRB;have VB:=yH hVB;have OO:=yH hO;have SI:=yH hS;have KK:=yH hK;have KSr:=yH (KS.out.keep hK (by omega));have KHr:=yH (KH.out.keep hK (by omega));have BR:Hid (Below base w wr):=yH ((B.out.mono GE.out.2.2.1).trans (hK.below (by have:=GE.out;have:=HWS.out;omega) (fun k hk h=>by omega)));obtain⟨sn,hsn⟩:∃sn,σ.n=sn:=⟨_,rfl⟩;have HSN:=yH hsn
 have hsle:sn≤1099511627776:=by
  have h1:=hS.sum;have h2:0≤(σ.fs.map Fl.got).sum:=hS.got_nn;have:=HN.out;omega
 rw[hsn];obtain⟨ao,cap,hav,hc1,hc2,_,_⟩:=aAg hO;subst hav;unfold maxLen at hc2;clear hRL hRB hO hS hK hVB hsn s4 KS KH HL HP B
 by_cases hn0:0<sn
 ·have CF:=yH (pfirst_any (n:=n) (most:=most) HMy RL.out SI.out.linv RB.out SI.out.binv HF.out HTo.out HGe.out HGi.out (want:=sn) (by unfold In64;omega));have s0:=KSr.out.cell 0;have s1:=KSr.out.cell 1;have s2:=KSr.out.cell 2;have s3:=KSr.out.cell 3;have s4:=KSr.out.cell 4;have s5:=KSr.out.cell 5;have h0:=KHr.out.cell 0;have h1:=KHr.out.cell 1;have hl:=KHr.out.lt;simp at s0 s1 s2 s3 s4 s5 h0 h1;go_wp2_with fail;refine CF.out.mono ?_;rintro e w1 ⟨rfl,b1⟩;have KS1:=yB KSr b1;have KH1:=yB KHr b1;have RL1:=yH (RL.out.below b1);have RB1:=yH (RB.out.below b1);have OO1:=yH (aAf OO.out b1);have KK1:=yH (KK.out.trans (pAD b1));have B1:=yH (BR.out.trans (b1.mono (by have:=BR.out.size;have:=GE.out;omega)));clear b1 s0 s1 s2 s3 s4 s5 h0 h1 hl CF KSr KHr RL RB OO KK BR
  cases hfs:aAx ps σ.ls σ.l fr pt sn 1099511627776 (aC1 σ.l get give)with
  | none=>
   have NO:Hid ((aM8 ps fr pt get give most ⟨ls,l,[],n⟩).1=11):=yH (by
    have e:aB3 ps fr pt get give 64 ⟨ls,l,[],n⟩=(11,σ):=by rw[HE.out,aHo (by rw[HSN.out];omega) (by rw[HSN.out];exact hfs)]
    unfold aM8;rw[e];simp only[];rw[if_pos (by simp)])
   clear hfs;dsimp only[Option.getD_none];go_wp2_with fail;go_ret2;exact .inl ⟨11,_,_,_,by decide,NO.out,rfl,B1.out⟩
  | some sk=>
   obtain⟨s0,k0⟩:=sk;obtain⟨k1,k2,ok,⟨o,ho,_,_⟩,hnext⟩:=SI.out.step (s:=s0) (k:=k0) (by rw[HSN.out];exact hfs);rw[HSN.out]at k2;have HFS:=yH hfs;have HOK:=yH ok;have HO:=yH ho;have HNX:=yH hnext;have HSQ:=yH (show 0≤o.se∧o.se≤18446744073709551615 from by have h1:=SI.out.binv.bd o (aCc ho).1;have h2:=SI.out.binv.n2;omega);rw[(aCc ho).2]at HSQ;have z5:decide (k0<1)=false:=by simp;omega
   clear hfs ok ho hnext;dsimp only[Option.getD_some]
   by_cases hfull:σ.fs.length=64
   ·have z6:((σ.fs.length:Int)==64)=true:=by simp;omega
    have NO:Hid ((aM8 ps fr pt get give most ⟨ls,l,[],n⟩).1=13):=yH (by
     have e:aB3 ps fr pt get give 64 ⟨ls,l,[],n⟩=(13,σ):=by rw[HE.out,aHp (by rw[HSN.out];omega) (by rw[HSN.out];exact HFS.out) hfull]
     unfold aM8;rw[e];simp only[];rw[if_pos (by simp)])
    clear hfull;go_wp2_with fail;go_ret2;exact .inl ⟨13,_,_,_,by decide,NO.out,rfl,B1.out⟩
   have z6:((σ.fs.length:Int)==64)=false:=by simp;omega
   have HL64:=yH (show σ.fs.length+1≤64 by omega);have CDo:=yH (aJq HD RL1.out SI.out.linv RB1.out SI.out.binv s0 fr pt k0 HSQ.out HF.out HTo.out ⟨by omega,by omega⟩);have s0_:=KS1.out.cell 0;have s1_:=KS1.out.cell 1;have h0:=KH1.out.cell 0;have h1:=KH1.out.cell 1;simp at s0_ s1_ h0 h1;clear hfull;go_wp2_with fail;refine CDo.out.mono ?_;rintro e wd hd;clear s0_ s1_ h0 h1 CDo;rcases hd with⟨hno,_⟩|⟨_,o',x,vb',ho',hx,rfl,hRL',hRB',kk,hmv⟩
   ·exact absurd HOK.out hno
   rw[HO.out]at ho'
   cases ho'
   have EN:Hid (aMq ps fr pt σ s0 k0=⟨aCx ps σ.ls o fr pt k0 x,aDu σ.l s0 k0,σ.fs++[⟨s0,k0,x⟩],sn - k0⟩):=yH (by unfold aMq;rw[HO.out,hx,←HSN.out]);have hWS:=HWS.out;have hge:=GE.out;have hsz:=KK1.out.size
   have hvb:∀j,j<W.heap.size→(j=G∨j=M∨Foot gb vb j)→base≤j∧j<w.heap.size:=by
    intro j hj h;rcases h with h|h|h|h
    ·omega
    ·omega
    ·omega
    have h1:=VB.out j h;have h2:=(RB1.out.lt (b:=j) (.inr h)).1;omega
   have OOd:=yH (aBq OO1.out kk (fun b hb h=>by
    have h1:=(aAe OO1.out hb).1;rcases h with h|h|h|h
    ·omega
    ·omega
    ·omega
    exact aHv OO1.out RB1.out.row (by decide) b hb h))
   have KKd:=yH (KK1.out.trans_new kk hvb)
   have VBd:=yH (show ∀b,vb'.ownBlock=some b→b<w.heap.size∨W.heap.size≤b from fun j hj=>by
    rcases hmv j hj with h|h
    ·exact VB.out j h
    exact .inr (by omega))
   have bf:=(Below.refl wd.heap.size wd).alloc yL (.cells #[.int .u64 s0,.int .u8 fr,.int .u8 pt,.int .i64 k0,.int .i64 x] 241);have KF:=yH (Blk.new wd #[.int .u64 s0,.int .u8 fr,.int .u8 pt,.int .i64 k0,.int .i64 x] 241);have RLf:=yH (hRL'.below bf);have RBf:=yH (hRB'.below bf);have OOf:=yH (aAf OOd.out bf);have KKf:=yH (KKd.out.trans (pAD bf));clear bf hRL' hRB' kk hmv hx RL1 RB1 OO1 KK1 KS1 KH1 OOd KKd B1 VB hvb hWS hge hsz;generalize hWF:wd.alloc (.cells #[.int .u64 s0,.int .u8 fr,.int .u8 pt,.int .i64 k0,.int .i64 x] 241)=WF at *;have HWF:=yH hWF;clear hWF;have f0:=KF.out.cell 0;have f1:=KF.out.cell 1;have f2:=KF.out.cell 2;have f3:=KF.out.cell 3;have f4:=KF.out.cell 4;simp at f0 f1 f2 f3 f4;have hb5:=KKf.out.size
   go_upto_region 9 with fail
   rw[HWF.out];go_wp2_with (at_builtin;refine aAy _ rfl (.tmp 42) (.tmp 44) 235 241 rfl Tryz.underlying235 info_flp rfl (by decide) (by decide) W.heap.size _ σ.fs.length _ rfl (OOf.out.alloc _) WF.heap.size 1 [.int .u64 s0,.int .u8 fr,.int .u8 pt,.int .i64 k0,.int .i64 x] rfl rfl (Blk.new _ _ _) (by simp[Value.oneCell']) (by have:=HL64.out;omega) (by simp;omega) ?_);intro v2 w2 ho2 hg2;have KG:Keep (fun k=>(Value.slice ao σ.fs.length cap).ownBlock=some k) WF w2:=((Keep.refl _ WF).alloc _).grown hg2 (fun k hk=>.inl hk);have RL2:=yH (RLf.out.keep KG (fun h=>by have:=(aAe OOf.out h).1;have:=GE.out;have:=HWS.out;omega) (fun h=>by have:=(aAe OOf.out h).1;have:=GE.out;have:=HWS.out;omega));have RB2:=yH (RBf.out.keep KG (fun h=>by have:=(aAe OOf.out h).1;have:=GE.out;have:=HWS.out;omega) (fun b hb h=>aHv OOf.out RBf.out.row (by decide) b h hb));have KK2:=yH (KKf.out.trans_new KG (fun j hj h=>by have:=(aAe OOf.out h).1;omega));have O2:=yH (show w2.ownsRow W.heap.size 241 5 v2 (σ.fs++[(⟨s0,k0,x⟩:Fl)]).length (aCf fr pt (σ.fs++[(⟨s0,k0,x⟩:Fl)]))from by rw[aKz];simpa [Fl.vals]using ho2)
   have HE2:Hid (aB3 ps fr pt get give 64 ⟨ls,l,[],n⟩=aB3 ps fr pt get give (64 - (σ.fs.length+1)) (aMq ps fr pt σ s0 k0)):=yH (by
    rw[HE.out,←aHq (by rw[HSN.out];omega) (by rw[HSN.out];exact HFS.out) (by have:=HL64.out;omega)];congr 1;have:=HL64.out;omega)
   have NX2:=yH HNX.out;rw[EN.out]at HE2 NX2;clear KG ho2 hg2 f0 f1 f2 f3 f4 hb5 EN HNX HE;go_wp2_with fail;exact⟨⟨⟨aCx ps σ.ls o fr pt k0 x,aDu σ.l s0 k0,σ.fs++[⟨s0,k0,x⟩],sn - k0⟩,_,rfl,RL2.out,RB2.out,VBd.out,O2.out,NX2.out,by simp;have:=HL64.out;omega,KK2.out,yH (by rw[HE2.out];simp)⟩,by simp[intOf];omega⟩
 have CG:=yH (fun(w':World) (h:Below wr.heap.size wr w')=>pgiven_any (aAf OO.out h) (fun f hf=>by obtain⟨_,_,_,_,_,_,_,h1,h2⟩:=SI.out.fs f hf;exact⟨by omega,by omega⟩) (by omega));have GB:=SI.out.given_bd;have HEN:Hid (aB3 ps fr pt get give 64 ⟨ls,l,[],n⟩=(0,σ)):=yH (by rw[HE.out,aHn (by rw[HSN.out];omega)]);obtain⟨gs,hgs⟩:∃gs,(σ.fs.map Fl.gi).sum=gs:=⟨_,rfl⟩;rw[hgs]at CG GB;have hok:okN gs=gs:=if_pos ⟨by omega,by omega⟩;rw[hok]at CG;have HGS:=yH hgs;clear hgs hok;go_wp2_with fail
 by_cases hq:most<gs
 ·have q1:decide (gs > most)=true:=by simpa using hq
  have NO:Hid ((aM8 ps fr pt get give most ⟨ls,l,[],n⟩).1=12):=yH (by unfold aM8;rw[HEN.out];simp only[];rw[if_neg (by simp),HGS.out,if_pos hq]);clear hq
  refine aAm (by kernel_rfl) [(.slice ao σ.fs.length cap),(.int .i64 gs),(.pointer (some ⟨w.heap.size,5,none⟩)),(.int .i64 most),(.bool true)]
   (fun w'=>Below wr.heap.size wr w') (by kernel_rfl) yZ.drew ?_
  intro af haf;simp only[yG,List.append_eq,List.cons_append,List.nil_append,puts,Act.put,yA,yC,yF,yD,yE]at haf;subst haf;refine⟨?_,?_⟩
  ·simp only[yG,List.append_eq,List.cons_append,List.nil_append,aBf];refine⟨?z1,?_,?z2,?_,?z3,trivial⟩
   case z1|z2|z3=>
    intro w' hS;refine yO rfl ?_;have HS:=yH hS;clear hS;go_wp2_with fail;all_goals first|exact HS|exact⟨rfl,HS⟩|rfl|exact⟨by omega,HS.out⟩
   ·intro w' hS;refine yO rfl ?_;have HS:=yH hS;clear hS;go_wp2_with fail;refine(CG.out _ HS.out).mono ?_;rintro e w'' ⟨rfl,hb2⟩;exact⟨rfl,andB HS.out hb2⟩
   intro w' hS;refine yO rfl ?_;have d0_0:=(KSr.out.below hS KSr.out.lt).cell 0;have d0_1:=(KSr.out.below hS KSr.out.lt).cell 1;have d0_2:=(KSr.out.below hS KSr.out.lt).cell 2;have d0_3:=(KSr.out.below hS KSr.out.lt).cell 3;have d0_4:=(KSr.out.below hS KSr.out.lt).cell 4;have d0_5:=(KSr.out.below hS KSr.out.lt).cell 5;simp at d0_0 d0_1 d0_2 d0_3 d0_4 d0_5;have HS:=yH hS;clear hS;go_wp2_with fail;all_goals first|exact HS|exact⟨rfl,HS⟩|rfl|exact⟨by omega,HS.out⟩
  intro w' hS;have B2:=yH (BR.out.trans (hS.mono (by have:=BR.out.size;have:=GE.out;omega)));clear hS;go_wp2_with fail;go_ret2;exact .inl ⟨12,_,_,_,by decide,NO.out,rfl,B2.out⟩
 have q1:decide (gs > most)=false:=by simpa using hq
 have YES:Hid (aM8 ps fr pt get give most ⟨ls,l,[],n⟩=(0,σ)):=yH (by unfold aM8;rw[HEN.out];simp only[];rw[if_neg (by simp),HGS.out,if_neg hq]);clear hq
 refine aAm (by kernel_rfl) [(.slice ao σ.fs.length cap),(.int .i64 gs),(.pointer (some ⟨w.heap.size,5,none⟩)),(.int .i64 most),(.bool false)]
  (fun w'=>Below wr.heap.size wr w') (by kernel_rfl) yZ.drew ?_
 intro af haf;simp only[yG,List.append_eq,List.cons_append,List.nil_append,puts,Act.put,yA,yC,yF,yD,yE]at haf;subst haf;refine⟨?_,?_⟩
 ·simp only[yG,List.append_eq,List.cons_append,List.nil_append,aBf];refine⟨?z4,?_,?z5,?_,?z6,trivial⟩
  case z4|z5|z6=>
   intro w' hS;refine yO rfl ?_;have HS:=yH hS;clear hS;go_wp2_with fail;all_goals first|exact HS|exact⟨rfl,HS⟩|rfl|exact⟨by omega,HS.out⟩
  ·intro w' hS;refine yO rfl ?_;have HS:=yH hS;clear hS;go_wp2_with fail;refine(CG.out _ HS.out).mono ?_;rintro e w'' ⟨rfl,hb2⟩;exact⟨rfl,andB HS.out hb2⟩
  intro w' hS;refine yO rfl ?_;have d0_0:=(KSr.out.below hS KSr.out.lt).cell 0;have d0_1:=(KSr.out.below hS KSr.out.lt).cell 1;have d0_2:=(KSr.out.below hS KSr.out.lt).cell 2;have d0_3:=(KSr.out.below hS KSr.out.lt).cell 3;have d0_4:=(KSr.out.below hS KSr.out.lt).cell 4;have d0_5:=(KSr.out.below hS KSr.out.lt).cell 5;simp at d0_0 d0_1 d0_2 d0_3 d0_4 d0_5;have HS:=yH hS;clear hS;go_wp2_with fail;all_goals first|exact HS|exact⟨rfl,HS⟩|rfl|exact⟨by omega,HS.out⟩
 intro w' hS;have B2:=yH (BR.out.trans (hS.mono (by have:=BR.out.size;have:=GE.out;omega)));have RL2:=yH (RL.out.below hS);have RB2:=yH (RB.out.below hS);have CL:=yH (aOm (aAf OO.out hS));have HLE:=yH (show w.heap.size≤W.heap.size by have:=HWS.out;omega);clear hS;go_wp2_with fail;refine CL.out.mono ?_;rintro e w2 ⟨v,rfl,hv,_,rfl⟩;obtain⟨a,c,rfl,_,_,_,_⟩:=hv.look;have HV:=yH (hv.base HLE.out);clear hv CL;go_wp2_with fail;go_ret2;exact .inr ⟨_,a,c,σ,YES.out,rfl,RL2.out,RB2.out,HV.out,B2.out⟩
def BCopyPost(base:Nat)(l:List Of)(N:Int)(w:World)(e:Ending)(w':World):Prop:=
 ∃g' vl',e=.returned (.pointer (some ⟨g',0,none⟩))∧PB w' base g' l N vl'∧w.heap.size≤g'∧(∀b,vl'.ownBlock=some b→w.heap.size≤b)∧Below w.heap.size w w'
theorem pcopyB_any{w:World}{base g:Nat}{l:List Of}{N:Int}{vl:Value}(h:PB w base g l N vl)(h1:1≤N)(hl:l.length≤1000):
  Calls Tryz.prog 77 #[.pointer (some ⟨g,0,none⟩)] w (BCopyPost base l N w):=by
 have CM:=yH (aMj h.blk h1);have H:=yH h;obtain⟨ao,cap,rfl,_⟩:=aAg h.row;have hgl:=h.blk.lt;have d0:=h.blk.cell 0;have d1:=h.blk.cell 1;simp at d0 d1;have CC:=yH (aN9 (w:=w.drew) (aAf h.row yZ.drew) hl);have hbs:=Nat.le_trans h.ge (Nat.le_of_lt hgl);clear h h1;go_enter Tryz.func77,Tryz.ntmps77;go_wp2_with fail;refine CM.out.mono ?_;rintro e w ⟨rfl,rfl⟩;go_wp2_with fail
 go_region_with ((refine CC.out.mono ?_;rintro e w1 ⟨v',rfl,o1,b1⟩;have HO:=yH o1;have HB:=yH b1;have k1:=(H.out.blk.drew).below b1 hgl;have c1:=k1.cell 1;have l1:=k1.lt;simp at c1;obtain⟨ao',cap',hv',_⟩:=aAg o1;subst hv';clear o1 b1 k1))
 all_goals
  go_wp2;refine bodyPost_ret (v:=.pointer (some ⟨w1.heap.size,0,none⟩)) (by simp[results,Tryz.results77,go_sem]) rfl ?_;have bw:=(Below.refl w1.heap.size w1).alloc yL (.cells #[.slice ao' l.length cap',.int .u64 N] 158);exact⟨_,_,rfl,⟨Blk.new _ _ _,Nat.le_trans hbs HB.out.size,aIz (aAf HO.out bw) hbs⟩,HB.out.size,fun b hb=>(aAe HO.out hb).1,(pAA HB.out).trans (bw.mono HB.out.size)⟩
theorem aTw{w:World}{base base':Nat}{e:TypeId}{size:Nat}{v:Value}{n:Nat}{xs:List Value}(h:w.ownsRow base e size v n xs)(hb:∀b,v.ownBlock=some b→base'≤b):w.ownsRow base' e size v n xs:=by
 obtain⟨h1,h2⟩:=h;refine⟨h1,?_⟩;rcases h2 with h2|⟨g,cap,cur,rfl,hge,hr⟩
 ·exact .inl h2
 exact .inr ⟨g,cap,cur,rfl,hb g rfl,hr⟩
theorem aM9:aDt:=by
 intro w base G M gb ps ls l N vb hL hI hP hJ;have hg1:(w.alloc (.cells #[.pointer (some ⟨G,0,none⟩),.pointer (some ⟨gb,0,none⟩)] 80)).heap.size=w.heap.size+1:=by simp
 have b1:=(Below.refl w.heap.size w).alloc yL (.cells #[.pointer (some ⟨G,0,none⟩),.pointer (some ⟨gb,0,none⟩)] 80);have k1:=Blk.new w #[.pointer (some ⟨G,0,none⟩),.pointer (some ⟨gb,0,none⟩)] 80;generalize hW1:w.alloc (.cells #[.pointer (some ⟨G,0,none⟩),.pointer (some ⟨gb,0,none⟩)] 80)=W1 at *;have b2:=(Below.refl W1.heap.size W1).alloc yL (.cells #[.pointer none,.pointer none] 80);have k2:=Blk.new W1 #[.pointer none,.pointer none] 80;rw[hg1]at k2;generalize hW2:W1.alloc (.cells #[.pointer none,.pointer none] 80)=W2 at *;have HW1:=yH hW1;have HW2:=yH hW2;have KX:=yH (k1.below b2 k1.lt);have KF:=yH k2;have CL:=yH (pcopy_any (((hL.below b1).below b2).below (Below.refl _ W2).drew));have HB:=yH (((hP.below b1).below b2).below (Below.refl _ W2).drew);have B1:=yH (b1.trans (b2.mono b1.size));have JJ:=yH hJ;clear hL hI hP hJ b1 b2 k1 k2 hW1 hW2 hg1;go_enter Tryz.func47,Tryz.ntmps47
 go_upto_region 1 with fail
 rw[HW1.out,HW2.out];have e0:=KX.out.cell 0;have e1:=KX.out.cell 1;have kx:=KX.out.lt;have kf:=KF.out.lt;have f0:=KF.out.cell 0;have f1:=KF.out.cell 1;simp at e0 e1 f0 f1
 go_region_with (first|(go_at_call 76;refine CL.out.mono ?_;rintro e w1 ⟨g1,m1,rfl,r1,n1,n2,b1⟩;have KX1:=yH (KX.out.drew.below b1 kx);have KF1:=yH (KF.out.drew.below b1 kf);have R1:=yH r1;have BB:=yH b1;have NN:=yH (And.intro n1 n2);have CB:=yH (pcopyB_any (HB.out.below b1) JJ.out.n1 (by have:=JJ.out.len;omega));clear r1 b1 n1 n2;have c0:=KX1.out.cell 0;have c1:=KX1.out.cell 1;have cx:=KX1.out.lt;simp at c0 c1)|(go_at_call 77;refine CB.out.mono ?_;rintro e w2 ⟨g2,vb2,rfl,r2,n1,n2,b2⟩;have KF2:=yB KF1 b2;have R2:=yH r2;have B2:=yH b2;have NM:=yH (And.intro n1 n2);clear r2 b2 n1 n2;have z0:=KF2.out.cell 0;have z1:=KF2.out.cell 1;have zx:=KF2.out.lt;have zf:=KF2.out.frozen;simp at z0 z1))
 all_goals
  go_wp2;refine bodyPost_ret (v:=.agg #[.pointer (some ⟨g1,0,none⟩),.pointer (some ⟨g2,0,none⟩)]) (results_cell_row rfl _ _ (w.heap.size+1) 80 #[.pointer (some ⟨g1,0,none⟩),.pointer (some ⟨g2,0,none⟩)] (0,0) _ rfl ((KF2.out.set 0 _).set 1 _).out Tryz.underlying80 rfl (by kernel_rfl)) rfl ?_
  have kk:Keep (·=w.heap.size+1) w2 ((w2.setCell ⟨w.heap.size+1,0,none⟩ (.pointer (some ⟨g1,0,none⟩))).setCell ⟨w.heap.size+1,1,none⟩ (.pointer (some ⟨g2,0,none⟩))):=by
   refine Keep.setCell (S:=(·=w.heap.size+1)) ?_ (p:=⟨w.heap.size+1,1,none⟩) (.inl rfl) _;exact Keep.setCell (S:=(·=w.heap.size+1)) (Keep.refl _ _) (p:=⟨w.heap.size+1,0,none⟩) (.inl rfl) _
  have s1:=B1.out.size;have s2:=BB.out.size;obtain⟨n1,n2⟩:=NN.out;obtain⟨m1,m2⟩:=NM.out;have hd:W2.drew.heap.size=W2.heap.size:=rfl;rw[hd]at s2 n1 n2;have R3:=R2.out.keep kk (by omega) (fun b h=>by have:=m2 b h;omega)
  exact⟨_,_,_,_,rfl,(R1.out.below B2.out).keep kk (by omega) (by omega),⟨R3.blk,by omega,aTw R3.row (fun b hb=>by have:=m2 b hb;omega)⟩,by omega,by omega,
   (B1.out.trans (((pAA BB.out).trans (B2.out.mono s2)).mono s1)).trans (kk.below (by omega) (fun k hk h=>by omega))⟩
theorem PB.down5{w:World}{base base' g:Nat}{l:List Of}{N:Int}{vl:Value}(h:PB w base g l N vl)(hb:base'≤base):PB w base' g l N vl:=⟨h.blk,Nat.le_trans hb h.ge,aIz h.row hb⟩
theorem swap1_ok{w:World}{cE cA cL:Nat}{u:FrameMode}(hE:Blk w cE #[.int .i64 0] 33):
  CallsD Tryz.prog 196 #[.pointer (some ⟨cE,0,none⟩),.pointer (some ⟨cA,0,none⟩),.pointer (some ⟨cL,0,none⟩)] u w fun e u' w'=>u'=u∧(e=.returned (.tuple #[])∧w'=w):=by
 have e0:=hE.cell 0;simp at e0;clear hE
 go_enter_d Tryz.func196,Tryz.ntmps196
 go_wp2_with fail;go_end0;exact⟨rfl,rfl⟩
theorem swap1_bad{w:World}{cE cA cL:Nat}{u:FrameMode}{er:Int}{x y v:Value}(hE:Blk w cE #[.int .i64 er] 33)(hA:Blk w cA #[x,y] 80)(hL:Blk w cL #[v] 235)(hAL:cA≠cL)(he:(er != 0)=true):
  CallsD Tryz.prog 196 #[.pointer (some ⟨cE,0,none⟩),.pointer (some ⟨cA,0,none⟩),.pointer (some ⟨cL,0,none⟩)] u w fun e u' w'=>u'=u∧(e=.returned (.tuple #[])∧w'=(w.setRow cA #[.pointer none,.pointer none]).setCell ⟨cL,0,none⟩ (.slice none 0 0)):=by
 have e0:=hE.cell 0;simp at e0;have KA:=yH hA;have L2:Blk (w.setRow cA #[.pointer none,.pointer none]) cL #[v] 235:=hL.keep (aAc (w:=w) cA #[.pointer none,.pointer none]) (fun h=>hAL h.symm);have l0:=L2.cell 0;have lf:=L2.frozen 0;simp at l0;clear hE hA hL hAL L2
 go_enter_d Tryz.func196,Tryz.ntmps196
 go_wp2_with (refine aAa rfl 80 (.tmp 1) (.tmp 5) rfl cA #[.pointer none,.pointer none] rfl rfl 80 _ KA.out.out (by kernel_rfl) rfl (by simp[Value.oneCell']) ?_);go_end0;exact⟨rfl,rfl⟩
def SwapNo(w:World)(er:Int)(e:Ending)(w':World):Prop:=e=.returned (.tuple #[.agg #[.pointer none,.pointer none],.slice none 0 0,.int .i64 er])∧Below w.heap.size w w'
structure SwR(w:World)(g:Nat)(x y a:Option Addr)(k c:Nat)(e:Int):Prop where
 af:Blk w (g+1) #[.pointer x,.pointer y] 80
 al:Blk w (g+2) #[.slice a k c] 235
 er:Blk w (g+3) #[.int .i64 e] 33
theorem SwR.keep{S:Nat→Prop}{w w':World}{g:Nat}{x y a:Option Addr}{k c:Nat}{er:Int}(h:SwR w g x y a k c er)(q:Keep S w w')(hS:∀j,g<j→j<g+4→¬S j):SwR w' g x y a k c er:=
 ⟨h.af.keep q (hS _ (by omega) (by omega)),h.al.keep q (hS _ (by omega) (by omega)),h.er.keep q (hS _ (by omega) (by omega))⟩
theorem SwR.below{w w':World}{g:Nat}{x y a:Option Addr}{k c:Nat}{er:Int}(h:SwR w g x y a k c er)(q:Below w.heap.size w w'):SwR w' g x y a k c er:=h.keep (pAD (S:=fun _=>False) q) (fun _ _ _ h=>h)
theorem SwR.belowB{w w':World}{B g:Nat}{x y a:Option Addr}{k c:Nat}{er:Int}(h:SwR w g x y a k c er)(q:Below B w w')(hB:g+3<B):SwR w' g x y a k c er:=⟨h.af.below q (by omega),h.al.below q (by omega),h.er.below q (by omega)⟩
theorem SwR.drew{w:World}{g:Nat}{x y a:Option Addr}{k c:Nat}{er:Int}(h:SwR w g x y a k c er):SwR w.drew g x y a k c er:=⟨h.af,h.al,h.er⟩
theorem SwR.stA{w:World}{g:Nat}{x y a:Option Addr}{k c:Nat}{er:Int}(h:SwR w g x y a k c er)(x' y':Option Addr):SwR (w.setRow (g+1) #[.pointer x',.pointer y']) g x' y' a k c er:=
 ⟨setRow_heap _ (g+1) _ _ _ (0,0) h.af,h.al.keep (aAc (w:=w) (g+1) _) (by omega),h.er.keep (aAc (w:=w) (g+1) _) (by omega)⟩
theorem SwR.stL{w:World}{g:Nat}{x y a:Option Addr}{k c:Nat}{er:Int}(h:SwR w g x y a k c er)(a':Option Addr)(k' c':Nat):SwR (w.setCell ⟨g+2,0,none⟩ (.slice a' k' c')) g x y a' k' c' er:=
 ⟨h.af.setOther (by show ¬g+1=g+2;omega) _,h.al.set 0 _,h.er.setOther (by show ¬g+3=g+2;omega) _⟩
theorem SwR.stE{w:World}{g:Nat}{x y a:Option Addr}{k c:Nat}{er:Int}(h:SwR w g x y a k c er)(er':Int):SwR (w.setCell ⟨g+3,0,none⟩ (.int .i64 er')) g x y a k c er':=
 ⟨h.af.setOther (by show ¬g+1=g+3;omega) _,h.al.setOther (by show ¬g+2=g+3;omega) _,h.er.set 0 _⟩
abbrev SwK(g:Nat)(W w':World):Prop:=Keep (fun j=>g<j∧j<g+4) W w'
theorem SwK.stA{W w:World}{g:Nat}(h:SwK g W w)(cs:Array Value):SwK g W (w.setRow (g+1) cs):=Keep.trans h ((aAc (w:=w) (g+1) cs).mono (fun j _ e=>by omega))
theorem SwK.st{W w:World}{g:Nat}(h:SwK g W w)(j:Nat)(hj:g<j∧j<g+4)(v:Value):SwK g W (w.setCell ⟨j,0,none⟩ v):=Keep.setCell h (.inl hj) v
theorem aH6{tmps:Array Value}{w:World}{g:Nat}{x y a:Option Addr}{k c:Nat}{er:Int}(h1:tmps[14]? = some (.pointer (some ⟨g+1,0,none⟩)))(h2:tmps[15]? = some (.pointer (some ⟨g+2,0,none⟩)))(h3:tmps[16]? = some (.pointer (some ⟨g+3,0,none⟩)))(h:SwR w g x y a k c er):
  (results Tryz.f154 tmps).run Tryz.prog w=.ok (.tuple #[.agg #[.pointer x,.pointer y],.slice a k c,.int .i64 er]) w:=by
 have a0:=h.af.cell 0;have a1:=h.af.cell 1;have l0:=h.al.cell 0;have e0:=h.er.cell 0;simp at a0 a1 l0 e0;simp[results,Tryz.results154,go_sem,h1,h2,h3,a0,a1,l0,e0]
theorem aGl{tmps:Array Value}{w:World}{g:Nat}{x y a:Option Addr}{k c:Nat}{er:Int}{R:Ending→World→Prop}(h1:tmps[14]? = some (.pointer (some ⟨g+1,0,none⟩)))(h2:tmps[15]? = some (.pointer (some ⟨g+2,0,none⟩)))(h3:tmps[16]? = some (.pointer (some ⟨g+3,0,none⟩)))(h:SwR w g x y a k c er)(he:(er != 0)=true)
  (hR:R (.returned (.tuple #[.agg #[.pointer none,.pointer none],.slice none 0 0,.int .i64 er])) ((w.setRow (g+1) #[.pointer none,.pointer none]).setCell ⟨g+2,0,none⟩ (.slice none 0 0))):
  Leaves Tryz.prog Tryz.f154 tmps R [{ target:=.fn (.func 196) #[.pointer (some ⟨g+3,0,none⟩),.pointer (some ⟨g+1,0,none⟩),.pointer (some ⟨g+2,0,none⟩)],args:=#[] }] .returning w:=by
 refine leaves_cons (f:=196) (args:=#[.pointer (some ⟨g+3,0,none⟩),.pointer (some ⟨g+1,0,none⟩),.pointer (some ⟨g+2,0,none⟩)]) (by simp) (by simp[go_sem]) ?_;refine(swap1_bad h.er h.af h.al (by omega) he).mono ?_;rintro e u' w' ⟨rfl,rfl,rfl⟩;exact⟨_,aH6 h1 h2 h3 ((h.stA none none).stL none 0 0),hR⟩
theorem aRt{tmps:Array Value}{w:World}{g:Nat}{x y a:Option Addr}{k c:Nat}{R:Ending→World→Prop}(h1:tmps[14]? = some (.pointer (some ⟨g+1,0,none⟩)))(h2:tmps[15]? = some (.pointer (some ⟨g+2,0,none⟩)))(h3:tmps[16]? = some (.pointer (some ⟨g+3,0,none⟩)))(h:SwR w g x y a k c 0)
  (hR:R (.returned (.tuple #[.agg #[.pointer x,.pointer y],.slice a k c,.int .i64 0])) w):
  Leaves Tryz.prog Tryz.f154 tmps R [{ target:=.fn (.func 196) #[.pointer (some ⟨g+3,0,none⟩),.pointer (some ⟨g+1,0,none⟩),.pointer (some ⟨g+2,0,none⟩)],args:=#[] }] .returning w:=by
 refine leaves_cons (f:=196) (args:=#[.pointer (some ⟨g+3,0,none⟩),.pointer (some ⟨g+1,0,none⟩),.pointer (some ⟨g+2,0,none⟩)]) (by simp) (by simp[go_sem]) ?_;refine(swap1_ok h.er).mono ?_;rintro e u' w' ⟨rfl,rfl,rfl⟩;exact⟨_,aH6 h1 h2 h3 h,hR⟩
theorem aNa{B:Nat}{w0 w:World}(h:Below B w0 w){g:Nat}(hg:B≤g):Below B w0 ((w.setRow (g+1) #[.pointer none,.pointer none]).setCell ⟨g+2,0,none⟩ (.slice none 0 0)):=(below_setRow h (by omega) _).setCell (p:=⟨g+2,0,none⟩) (by show B≤g+2;omega) _
theorem pswap_void{w:World}{a b:Option Addr}(fr pt get give n most:Int)(h:∀w',Below w.heap.size w w'→Calls Tryz.prog 232 #[.agg #[.pointer a,.pointer b]] w' fun e w''=>e=.returned (.bool false)∧Below w'.heap.size w' w''):
  Calls Tryz.prog 154 #[.agg #[.pointer a,.pointer b],.int .u8 fr,.int .u8 pt,.int .u8 get,.int .u8 give,.int .i64 n,.int .i64 most] w (SwapNo w 2):=by
 have b1:=(Below.refl w.heap.size w).alloc yL (.cells #[.pointer a,.pointer b] 80);have b2:=b1.alloc b1.size (.cells #[.pointer none,.pointer none] 80);have b3:=b2.alloc b2.size (.cells #[.slice none 0 0] 235);have b4:=b3.alloc b3.size (.cells #[.int .i64 0] 33);have b5:=b4.alloc b4.size (.cells #[.int .u8 fr,.int .u8 pt,.int .u8 get,.int .u8 give,.int .i64 n,.int .i64 most] 289);have KH:=yH (((((Blk.new w #[.pointer a,.pointer b] 80).alloc (.cells #[.pointer none,.pointer none] 80)).alloc (.cells #[.slice none 0 0] 235)).alloc (.cells #[.int .i64 0] 33)).alloc (.cells #[.int .u8 fr,.int .u8 pt,.int .u8 get,.int .u8 give,.int .i64 n,.int .i64 most] 289));have KS:=yH (pAB ((((w.alloc (.cells #[.pointer a,.pointer b] 80)).alloc (.cells #[.pointer none,.pointer none] 80)).alloc (.cells #[.slice none 0 0] 235)).alloc (.cells #[.int .i64 0] 33)) #[.int .u8 fr,.int .u8 pt,.int .u8 get,.int .u8 give,.int .i64 n,.int .i64 most] 289 (g:=w.heap.size+4) (by simp))
 have RR:Hid (SwR (((((w.alloc (.cells #[.pointer a,.pointer b] 80)).alloc (.cells #[.pointer none,.pointer none] 80)).alloc (.cells #[.slice none 0 0] 235)).alloc (.cells #[.int .i64 0] 33)).alloc (.cells #[.int .u8 fr,.int .u8 pt,.int .u8 get,.int .u8 give,.int .i64 n,.int .i64 most] 289)) w.heap.size none none none 0 0 0):=yH ⟨(((pAB (w.alloc (.cells #[.pointer a,.pointer b] 80)) #[.pointer none,.pointer none] 80 (g:=w.heap.size+1) (by simp)).alloc (.cells #[.slice none 0 0] 235)).alloc (.cells #[.int .i64 0] 33)).alloc (.cells #[.int .u8 fr,.int .u8 pt,.int .u8 get,.int .u8 give,.int .i64 n,.int .i64 most] 289),
  ((pAB ((w.alloc (.cells #[.pointer a,.pointer b] 80)).alloc (.cells #[.pointer none,.pointer none] 80)) #[.slice none 0 0] 235 (g:=w.heap.size+2) (by simp)).alloc (.cells #[.int .i64 0] 33)).alloc (.cells #[.int .u8 fr,.int .u8 pt,.int .u8 get,.int .u8 give,.int .i64 n,.int .i64 most] 289),
  (pAB (((w.alloc (.cells #[.pointer a,.pointer b] 80)).alloc (.cells #[.pointer none,.pointer none] 80)).alloc (.cells #[.slice none 0 0] 235)) #[.int .i64 0] 33 (g:=w.heap.size+3) (by simp)).alloc (.cells #[.int .u8 fr,.int .u8 pt,.int .u8 get,.int .u8 give,.int .i64 n,.int .i64 most] 289)⟩
 have B:=yH b5;have CW:=yH (aTu fr pt get give n most (fun w' k=>h w' (andB b5 k)));clear b1 b2 b3 b4 b5 h;generalize hW:((((w.alloc (.cells #[.pointer a,.pointer b] 80)).alloc (.cells #[.pointer none,.pointer none] 80)).alloc (.cells #[.slice none 0 0] 235)).alloc (.cells #[.int .i64 0] 33)).alloc (.cells #[.int .u8 fr,.int .u8 pt,.int .u8 get,.int .u8 give,.int .i64 n,.int .i64 most] 289)=W at *;have HW:=yH hW;clear hW;have h0:=KH.out.cell 0;have h1:=KH.out.cell 1;have s0:=KS.out.cell 0;have s1:=KS.out.cell 1;have s2:=KS.out.cell 2;have s3:=KS.out.cell 3;have s4:=KS.out.cell 4;have s5:=KS.out.cell 5;simp at h0 h1 s0 s1 s2 s3 s4 s5
 go_enter_defers Tryz.func154,Tryz.ntmps154
 go_upto_region 3 with fail
 rw[HW.out];go_wp2_with fail;refine CW.out.mono ?_;rintro e w1 ⟨rfl,b1⟩;have RR1:=yH (RR.out.below b1);have B1:=yT B b1;clear b1 h0 h1 s0 s1 s2 s3 s4 s5 KH KS RR B CW;have RRq:=yH (RR1.out.stE 2);have B2:=yH (B1.out.setCell (p:=⟨w.heap.size+3,0,none⟩) (by show w.heap.size≤w.heap.size+3;omega) (.int .i64 2));have x0:=RR1.out.er.cell 0;have fz:=RR1.out.er.frozen 0;have y0:=RRq.out.er.cell 0;simp at x0 y0;generalize hW2:w1.setCell ⟨w.heap.size+3,0,none⟩ (.int .i64 2)=W2 at *;have HW2:=yH hW2;clear hW2
 go_upto_region 4 with fail
 rw[HW2.out];go_wp2_with fail
 refine aAm (by kernel_rfl) [(.agg #[.pointer none,.pointer none]),(.slice none 0 0),(.int .i64 2),undef,undef,undef]
  (fun w'=>SwR w' w.heap.size none none none 0 0 2∧SwK w.heap.size W2 w') (by kernel_rfl) ⟨RRq.out.drew,(Keep.refl _ _).drew⟩ ?_
 intro af haf;simp only[yG,List.append_eq,List.cons_append,List.nil_append,puts,Act.put,yA,yC,yF,yD,yE]at haf;subst haf;refine⟨?_,?_⟩
 ·simp only[yG,List.append_eq,List.cons_append,List.nil_append,aBf];refine⟨?_,?_,?_,?_,?_,?_,trivial⟩
  ·intro w' hS;refine yO rfl ?_;have d0:=hS.1.af.cell 0;have d1:=hS.1.af.cell 1;simp at d0 d1;have HS:=yH hS;clear hS;go_wp2_with fail;all_goals first|exact HS|exact⟨rfl,HS⟩|rfl
  ·intro w' hS;refine yO rfl ?_;have d0:=hS.1.al.cell 0;simp at d0;have HS:=yH hS;clear hS;go_wp2_with fail;all_goals first|exact HS|exact⟨rfl,HS⟩|rfl
  ·intro w' hS;refine yO rfl ?_;have d0:=hS.1.er.cell 0;simp at d0;have HS:=yH hS;clear hS;go_wp2_with fail;all_goals first|exact HS|exact⟨rfl,HS⟩|rfl
  ·intro w' hS;refine yO rfl ?_;have d0:=hS.1.af.cell 0;have d1:=hS.1.af.cell 1;simp at d0 d1;have HS:=yH hS;clear hS;refine wp_store_row 80 (.tmp 14) (.tmp 31) rfl (w.heap.size+1) #[.pointer none,.pointer none] rfl rfl 80 _ HS.out.1.af.out (by kernel_rfl) rfl (by simp[Value.oneCell']) ⟨rfl,?_⟩;exact⟨HS.out.1.stA _ _,SwK.stA HS.out.2 _⟩
  ·intro w' hS;refine yO rfl ?_;have d0:=hS.1.al.cell 0;have dz:=hS.1.al.frozen 0;simp at d0;have HS:=yH hS;clear hS;go_wp2_with fail;exact⟨HS.out.1.stL _ _ _,SwK.st HS.out.2 (w.heap.size+2) (by omega) _⟩
  intro w' hS;refine yO rfl ?_;have d0:=hS.1.er.cell 0;have dz:=hS.1.er.frozen 0;simp at d0;have HS:=yH hS;clear hS;go_wp2_with fail;exact⟨HS.out.1.stE _,SwK.st HS.out.2 (w.heap.size+3) (by omega) _⟩
 intro wq hq;go_wp2_with fail;refine aGl (g:=w.heap.size) rfl rfl rfl hq.1 (by first|assumption|decide) ?_;exact⟨rfl,aNa (B2.out.trans (hq.2.below B2.out.size (fun j hj h=>by omega))) yL⟩
def aRu(w:World)(ps:List Int)(ls:List Ln)(l:List Of)(N fr pt get give n most:Int)(e:Ending)(w':World):Prop:=
 (∃er:Int,er≠0∧(aDv ps ls l fr pt get give n most).1=er∧SwapNo w er e w')∨
 (∃(G M gb:Nat) (vb:Value) (a:Option Addr) (c:Nat) (σ:SwS),aDv ps ls l fr pt get give n most=(0,σ)∧aD0 fr pt get give n most∧e=.returned (.tuple #[.agg #[.pointer (some ⟨G,0,none⟩),.pointer (some ⟨gb,0,none⟩)],.slice a σ.fs.length c,.int .i64 0])∧LedM w' G M ps σ.ls∧PB w' w.heap.size gb σ.l N vb∧aBj w' w.heap.size 241 5 (.slice a σ.fs.length c) σ.fs.length (aCf fr pt σ.fs)∧
  w.heap.size≤G∧w.heap.size≤M∧Below w.heap.size w w')
theorem aTx{ps:List Int}{ls:List Ln}{l:List Of}{fr pt get give n most er:Int}(h:aHb ps fr pt get give n most=er)(he:er≠0):(aDv ps ls l fr pt get give n most).1=er:=by
 unfold aHb at h;unfold aDv
 by_cases h1:aD0 fr pt get give n most
 ·rw[if_neg (fun q=>q h1)]at h ⊢
  by_cases h2:fr∉ps∨pt∉ps
  ·rw[if_pos h2]at h ⊢;exact h
  rw[if_neg h2]at h;exact absurd h.symm he
 rw[if_pos h1]at h ⊢;exact h
theorem aTy{ps:List Int}{ls:List Ln}{l:List Of}{fr pt get give n most:Int}(h:aHb ps fr pt get give n most=0):aD0 fr pt get give n most∧aDv ps ls l fr pt get give n most=aM8 ps fr pt get give most ⟨ls,l,[],n⟩:=by
 unfold aHb at h;unfold aDv
 by_cases h1:aD0 fr pt get give n most
 ·rw[if_neg (fun q=>q h1)]at h ⊢
  by_cases h2:fr∉ps∨pt∉ps
  ·rw[if_pos h2]at h;exact absurd h (by decide)
  rw[if_neg h2];exact⟨h1,rfl⟩
 rw[if_pos h1]at h;exact absurd h (by decide)
theorem pswap_any(HMy:aCh)(HD:aD1)(HCp:aDt){w:World}{base G M gb:Nat}{ps:List Int}{ls:List Ln}{l:List Of}{N:Int}{vb:Value}(hL:LedM w G M ps ls)(hI:LInv ps ls)(hP:PB w base gb l N vb)(hJ:BInv l N)
  (fr pt get give n most:Int)(hf:In8 fr)(ht:In8 pt)(hg:In8 get)(hv:In8 give):
  Calls Tryz.prog 154 #[.agg #[.pointer (some ⟨G,0,none⟩),.pointer (some ⟨gb,0,none⟩)],.int .u8 fr,.int .u8 pt,.int .u8 get,.int .u8 give,.int .i64 n,.int .i64 most] w (aRu w ps ls l N fr pt get give n most):=by
 have b1:=(Below.refl w.heap.size w).alloc yL (.cells #[.pointer (some ⟨G,0,none⟩),.pointer (some ⟨gb,0,none⟩)] 80);have b2:=b1.alloc b1.size (.cells #[.pointer none,.pointer none] 80);have b3:=b2.alloc b2.size (.cells #[.slice none 0 0] 235);have b4:=b3.alloc b3.size (.cells #[.int .i64 0] 33);have b5:=b4.alloc b4.size (.cells #[.int .u8 fr,.int .u8 pt,.int .u8 get,.int .u8 give,.int .i64 n,.int .i64 most] 289);have KH:=yH (((((Blk.new w #[.pointer (some ⟨G,0,none⟩),.pointer (some ⟨gb,0,none⟩)] 80).alloc (.cells #[.pointer none,.pointer none] 80)).alloc (.cells #[.slice none 0 0] 235)).alloc (.cells #[.int .i64 0] 33)).alloc (.cells #[.int .u8 fr,.int .u8 pt,.int .u8 get,.int .u8 give,.int .i64 n,.int .i64 most] 289));have KS:=yH (pAB ((((w.alloc (.cells #[.pointer (some ⟨G,0,none⟩),.pointer (some ⟨gb,0,none⟩)] 80)).alloc (.cells #[.pointer none,.pointer none] 80)).alloc (.cells #[.slice none 0 0] 235)).alloc (.cells #[.int .i64 0] 33)) #[.int .u8 fr,.int .u8 pt,.int .u8 get,.int .u8 give,.int .i64 n,.int .i64 most] 289 (g:=w.heap.size+4) (by simp))
 have RR:Hid (SwR (((((w.alloc (.cells #[.pointer (some ⟨G,0,none⟩),.pointer (some ⟨gb,0,none⟩)] 80)).alloc (.cells #[.pointer none,.pointer none] 80)).alloc (.cells #[.slice none 0 0] 235)).alloc (.cells #[.int .i64 0] 33)).alloc (.cells #[.int .u8 fr,.int .u8 pt,.int .u8 get,.int .u8 give,.int .i64 n,.int .i64 most] 289)) w.heap.size none none none 0 0 0):=yH ⟨(((pAB (w.alloc (.cells #[.pointer (some ⟨G,0,none⟩),.pointer (some ⟨gb,0,none⟩)] 80)) #[.pointer none,.pointer none] 80 (g:=w.heap.size+1) (by simp)).alloc (.cells #[.slice none 0 0] 235)).alloc (.cells #[.int .i64 0] 33)).alloc (.cells #[.int .u8 fr,.int .u8 pt,.int .u8 get,.int .u8 give,.int .i64 n,.int .i64 most] 289),
  ((pAB ((w.alloc (.cells #[.pointer (some ⟨G,0,none⟩),.pointer (some ⟨gb,0,none⟩)] 80)).alloc (.cells #[.pointer none,.pointer none] 80)) #[.slice none 0 0] 235 (g:=w.heap.size+2) (by simp)).alloc (.cells #[.int .i64 0] 33)).alloc (.cells #[.int .u8 fr,.int .u8 pt,.int .u8 get,.int .u8 give,.int .i64 n,.int .i64 most] 289),
  (pAB (((w.alloc (.cells #[.pointer (some ⟨G,0,none⟩),.pointer (some ⟨gb,0,none⟩)] 80)).alloc (.cells #[.pointer none,.pointer none] 80)).alloc (.cells #[.slice none 0 0] 235)) #[.int .i64 0] 33 (g:=w.heap.size+3) (by simp)).alloc (.cells #[.int .u8 fr,.int .u8 pt,.int .u8 get,.int .u8 give,.int .i64 n,.int .i64 most] 289)⟩
 have B:=yH b5;have CW:=yH (swrong_any HD (hL.below b5) hI (hP.below b5) hJ fr pt get give n most);have L5:=yH (hL.below b5);have P5:=yH (hP.below b5);have II:=yH hI;have JJ:=yH hJ;have HF:=yH hf;have HTo:=yH ht;have HGe:=yH hg;have HGi:=yH hv;obtain⟨er,her⟩:∃er,aHb ps fr pt get give n most=er:=⟨_,rfl⟩;rw[her]at CW;have HER:=yH her;have GE:=yH (show G<w.heap.size∧M<w.heap.size∧∀b,Foot gb vb b→b<w.heap.size from⟨hL.blk.lt,hL.map.lt,fun b hb=>(hP.lt hb).2⟩);clear b1 b2 b3 b4 b5 hL hI hP hJ hf ht hg hv her;generalize hW:((((w.alloc (.cells #[.pointer (some ⟨G,0,none⟩),.pointer (some ⟨gb,0,none⟩)] 80)).alloc (.cells #[.pointer none,.pointer none] 80)).alloc (.cells #[.slice none 0 0] 235)).alloc (.cells #[.int .i64 0] 33)).alloc (.cells #[.int .u8 fr,.int .u8 pt,.int .u8 get,.int .u8 give,.int .i64 n,.int .i64 most] 289)=W at *;have HW:=yH hW;clear hW;have h0:=KH.out.cell 0;have h1:=KH.out.cell 1;have s0:=KS.out.cell 0;have s1:=KS.out.cell 1;have s2:=KS.out.cell 2;have s3:=KS.out.cell 3;have s4:=KS.out.cell 4;have s5:=KS.out.cell 5;simp at h0 h1 s0 s1 s2 s3 s4 s5
 go_enter_defers Tryz.func154,Tryz.ntmps154
 go_upto_region 3 with fail
 rw[HW.out];go_wp2_with fail;refine CW.out.mono ?_;rintro e w1 ⟨rfl,b1⟩;have RR1:=yH (RR.out.below b1);have KH1:=yB KH b1;have KS1:=yB KS b1;have L1:=yH (L5.out.below b1);have P1:=yH (P5.out.below b1);have B1:=yT B b1;clear b1 h0 h1 s0 s1 s2 s3 s4 s5 KH KS RR B CW L5 P5
 by_cases hz:er=0
 ·subst hz;obtain⟨hmay,heq⟩:=aTy (ls:=ls) (l:=l) HER.out;have HMA:=yH hmay;have EQ:=yH heq;have RR2:=yH (RR1.out.stE 0);have kE:Keep (fun j=>j=w.heap.size+3) w1 (w1.setCell ⟨w.heap.size+3,0,none⟩ (.int .i64 0)):=Keep.setCell (S:=fun j=>j=w.heap.size+3) (Keep.refl _ _) (p:=⟨w.heap.size+3,0,none⟩) (.inl rfl) _;have KH2:=yH (KH1.out.keep kE (by omega));have KS2:=yH (KS1.out.keep kE (by omega));have L2:=yH (L1.out.keep kE (by have:=GE.out;omega) (by have:=GE.out;omega));have P2:=yH (P1.out.keep kE (fun e=>by have:=GE.out.2.2 gb (.inl rfl);omega) (fun b hb e=>by have:=GE.out.2.2 b (.inr hb);omega));have B2:=yH (B1.out.setCell (p:=⟨w.heap.size+3,0,none⟩) (by show w.heap.size≤w.heap.size+3;omega) (.int .i64 0));have x0:=RR1.out.er.cell 0;have fz:=RR1.out.er.frozen 0;have y0:=RR2.out.er.cell 0;simp at x0 y0;generalize hW2:w1.setCell ⟨w.heap.size+3,0,none⟩ (.int .i64 0)=W2 at *;have HW2:=yH hW2;clear hW2 hmay heq kE KH1 KS1 L1 P1 RR1 B1
  go_upto_region 4 with fail
  rw[HW2.out];have h0:=KH2.out.cell 0;have h1:=KH2.out.cell 1;simp at h0 h1;have CC:=yH (HCp L2.out II.out P2.out JJ.out);go_wp2_with fail;refine CC.out.mono ?_;rintro e wc ⟨G2,M2,gb2,vb2,rfl,hL3,hP3,hg,hm,b3⟩;have RR3:=yH (RR2.out.below b3);have KS3:=yB KS2 b3;have L3:=yH hL3;have P3:=yH hP3;have B3:=yT B2 b3;have GE3:=yH (show W2.heap.size≤G2∧W2.heap.size≤M2∧W2.heap.size≤gb2∧(∀b,vb2.ownBlock=some b→W2.heap.size≤b)∧w.heap.size+4<W2.heap.size∧W2.heap.size≤wc.heap.size from⟨hg,hm,hP3.ge,fun b hb=>(hP3.lt (.inr hb)).1,KS2.out.lt,b3.size⟩);clear hL3 hP3 hg hm b3 h0 h1 x0 fz y0 CC RR2 KS2 B2 L2 P2 KH2
  go_upto_region 7 with(refine aAa rfl 80 (.tmp 14) (.tmp 35) rfl (w.heap.size+1) #[.pointer (some ⟨G2,0,none⟩),.pointer (some ⟨gb2,0,none⟩)] rfl rfl 80 _ RR3.out.af.out (by kernel_rfl) rfl (by simp[Value.oneCell']) ?_)
  have kA:=aAc (w:=wc) (w.heap.size+1) #[.pointer (some ⟨G2,0,none⟩),.pointer (some ⟨gb2,0,none⟩)];have RR4:=yH (RR3.out.stA (some ⟨G2,0,none⟩) (some ⟨gb2,0,none⟩));have KS4:=yH (KS3.out.keep kA (by omega));have L4:=yH (L3.out.keep kA (by have:=GE3.out;omega) (by have:=GE3.out;omega));have P4:=yH (P3.out.keep kA (by have:=GE3.out;omega) (fun b hb e=>by have h1:=GE3.out.2.2.2.1 b hb;have h2:=GE3.out.2.2.2.2;omega));have B4:=yH (below_setRow B3.out (by omega:w.heap.size≤w.heap.size+1) #[.pointer (some ⟨G2,0,none⟩),.pointer (some ⟨gb2,0,none⟩)]);have HSZ:Hid ((wc.setRow (w.heap.size+1) #[.pointer (some ⟨G2,0,none⟩),.pointer (some ⟨gb2,0,none⟩)]).heap.size=wc.heap.size):=yH (by simp[World.setRow]);generalize hW4:wc.setRow (w.heap.size+1) #[.pointer (some ⟨G2,0,none⟩),.pointer (some ⟨gb2,0,none⟩)]=W4 at *;clear hW4 kA RR3 KS3 L3 P3 B3;have s0:=KS4.out.cell 0;have s1:=KS4.out.cell 1;have s2:=KS4.out.cell 2;have s3:=KS4.out.cell 3;have s4:=KS4.out.cell 4;have s5:=KS4.out.cell 5;have a0:=RR4.out.af.cell 0;have a1:=RR4.out.af.cell 1;have al:=RR4.out.af.lt;simp at s0 s1 s2 s3 s4 s5 a0 a1;have CF:=yH (pfill_any HMy HD (base:=W2.heap.size) L4.out II.out (P4.out.below yZ) JJ.out (by have:=GE3.out;omega) (by have:=GE3.out;omega) (by have:=GE3.out;have:=HSZ.out;omega) fr pt get give n most HF.out HTo.out HGe.out HGi.out HMA.out.2.2.2.2.2.1 HMA.out.2.2.2.2.2.2);go_wp2_with fail;refine CF.out.mono ?_;rintro e wf hpf;clear s0 s1 s2 s3 s4 s5 a0 a1 al CF KS4;have DN:=yH (fun(a:Option Addr) (k c:Nat) (e':Int) (q:SwR wf w.heap.size (some ⟨G2,0,none⟩) (some ⟨gb2,0,none⟩) none 0 0 0)=>(q.stL a k c).stE e');rcases hpf with⟨er,a,k,c,hne,her,rfl,bf⟩|⟨vb3,a,c,σ,heq,rfl,hL,hP,hR,bf⟩
  ·have NO:Hid ((aDv ps ls l fr pt get give n most).1=er):=yH (by rw[EQ.out];exact her);have HNE:=yH hne;have q0:(er != 0)=true:=by simpa using hne
   clear hne her;have RRf:=yH (RR4.out.belowB bf (by have:=GE3.out;omega));have RRq:=yH (DN.out a k c er RRf.out);have Bf:=yH (B4.out.trans (bf.mono (by have:=GE3.out;omega)));have Bq:=yH ((Bf.out.setCell (p:=⟨w.heap.size+2,0,none⟩) (by show w.heap.size≤w.heap.size+2;omega) (.slice a k c)).setCell (p:=⟨w.heap.size+3,0,none⟩) (by show w.heap.size≤w.heap.size+3;omega) (.int .i64 er));have RR5:=(RRf.out.stL a k c);have x0:=RRf.out.al.cell 0;have x1:=RRf.out.er.cell 0;have f0:=RRf.out.al.frozen 0;have y1:=RR5.er.cell 0;have f2:=RR5.er.frozen 0;simp at x0 x1 y1;generalize hWq:((wf.setCell ⟨w.heap.size+2,0,none⟩ (.slice a k c)).setCell ⟨w.heap.size+3,0,none⟩ (.int .i64 er))=Wq at *;have HWq:=yH hWq;clear hWq RR5
   go_upto_region 8 with fail
   rw[HWq.out]
   refine aAm (by kernel_rfl) [(.agg #[.pointer (some ⟨G2,0,none⟩),.pointer (some ⟨gb2,0,none⟩)]),(.slice a k c),(.int .i64 er),undef,undef,undef]
    (fun w'=>SwR w' w.heap.size (some ⟨G2,0,none⟩) (some ⟨gb2,0,none⟩) a k c er∧SwK w.heap.size Wq w') (by kernel_rfl) ⟨RRq.out.drew,(Keep.refl _ _).drew⟩ ?_
   intro af haf;simp only[yG,List.append_eq,List.cons_append,List.nil_append,puts,Act.put,yA,yC,yF,yD,yE]at haf;subst haf;refine⟨?_,?_⟩
   ·simp only[yG,List.append_eq,List.cons_append,List.nil_append,aBf];refine⟨?_,?_,?_,?_,?_,?_,trivial⟩
    ·intro w' hS;refine yO rfl ?_;have d0:=hS.1.af.cell 0;have d1:=hS.1.af.cell 1;simp at d0 d1;have HS:=yH hS;clear hS;go_wp2_with fail;all_goals first|exact HS|exact⟨rfl,HS⟩|rfl
    ·intro w' hS;refine yO rfl ?_;have d0:=hS.1.al.cell 0;simp at d0;have HS:=yH hS;clear hS;go_wp2_with fail;all_goals first|exact HS|exact⟨rfl,HS⟩|rfl
    ·intro w' hS;refine yO rfl ?_;have d0:=hS.1.er.cell 0;simp at d0;have HS:=yH hS;clear hS;go_wp2_with fail;all_goals first|exact HS|exact⟨rfl,HS⟩|rfl
    ·intro w' hS;refine yO rfl ?_;have d0:=hS.1.af.cell 0;have d1:=hS.1.af.cell 1;simp at d0 d1;have HS:=yH hS;clear hS;refine wp_store_row 80 (.tmp 14) (.tmp 42) rfl (w.heap.size+1) #[.pointer (some ⟨G2,0,none⟩),.pointer (some ⟨gb2,0,none⟩)] rfl rfl 80 _ HS.out.1.af.out (by kernel_rfl) rfl (by simp[Value.oneCell']) ⟨rfl,?_⟩;exact⟨HS.out.1.stA _ _,SwK.stA HS.out.2 _⟩
    ·intro w' hS;refine yO rfl ?_;have d0:=hS.1.al.cell 0;have dz:=hS.1.al.frozen 0;simp at d0;have HS:=yH hS;clear hS;go_wp2_with fail;exact⟨HS.out.1.stL _ _ _,SwK.st HS.out.2 (w.heap.size+2) (by omega) _⟩
    intro w' hS;refine yO rfl ?_;have d0:=hS.1.er.cell 0;have dz:=hS.1.er.frozen 0;simp at d0;have HS:=yH hS;clear hS;go_wp2_with fail;exact⟨HS.out.1.stE _,SwK.st HS.out.2 (w.heap.size+3) (by omega) _⟩
   intro wq hq;have BQ:=yH (Bq.out.trans (hq.2.below Bq.out.size (fun j hj h=>by omega)));go_wp2_with fail;refine aGl (g:=w.heap.size) rfl rfl rfl hq.1 q0 ?_;exact .inl ⟨er,HNE.out,NO.out,rfl,aNa BQ.out yL⟩
  have YES:Hid (aDv ps ls l fr pt get give n most=(0,σ)):=yH (by rw[EQ.out];exact heq);have RRf:=yH (RR4.out.belowB bf (by have:=GE3.out;omega));have RRq:=yH (DN.out a σ.fs.length c 0 RRf.out);have Bf:=yH (B4.out.trans (bf.mono (by have:=GE3.out;omega)));have Bq:=yH ((Bf.out.setCell (p:=⟨w.heap.size+2,0,none⟩) (by show w.heap.size≤w.heap.size+2;omega) (.slice a σ.fs.length c)).setCell (p:=⟨w.heap.size+3,0,none⟩) (by show w.heap.size≤w.heap.size+3;omega) (.int .i64 0));have kq:Keep (fun j=>w.heap.size<j∧j<w.heap.size+4) wf ((wf.setCell ⟨w.heap.size+2,0,none⟩ (.slice a σ.fs.length c)).setCell ⟨w.heap.size+3,0,none⟩ (.int .i64 0)):=SwK.st (SwK.st (Keep.refl _ _) (w.heap.size+2) (by omega) _) (w.heap.size+3) (by omega) _;have RR5:=(RRf.out.stL a σ.fs.length c);have x0:=RRf.out.al.cell 0;have x1:=RRf.out.er.cell 0;have f0:=RRf.out.al.frozen 0;have y1:=RR5.er.cell 0;have f2:=RR5.er.frozen 0;simp at x0 x1 y1;have Lq:=yH (hL.keep kq (by have:=GE3.out;omega) (by have:=GE3.out;omega));have Pq:=yH (hP.keep kq (by have:=GE3.out;have:=hP.ge;omega) (fun b hb e=>by have h1:=(hP.lt (.inr hb)).1;have h2:=GE3.out;omega));have Rq:=yH (hR.keep kq (fun b hb e=>by have h1:=(hR.type hb).1;have h2:=GE3.out;have h3:=HSZ.out;omega));clear hL hP hR heq;generalize hWq:((wf.setCell ⟨w.heap.size+2,0,none⟩ (.slice a σ.fs.length c)).setCell ⟨w.heap.size+3,0,none⟩ (.int .i64 0))=Wq at *;have HWq:=yH hWq;clear hWq RR5 kq
  go_upto_region 8 with fail
  rw[HWq.out]
  refine aAm (by kernel_rfl) [(.agg #[.pointer (some ⟨G2,0,none⟩),.pointer (some ⟨gb2,0,none⟩)]),(.slice a σ.fs.length c),(.int .i64 0),undef,undef,undef]
   (fun w'=>SwR w' w.heap.size (some ⟨G2,0,none⟩) (some ⟨gb2,0,none⟩) a σ.fs.length c 0∧SwK w.heap.size Wq w') (by kernel_rfl) ⟨RRq.out.drew,(Keep.refl _ _).drew⟩ ?_
  intro af haf;simp only[yG,List.append_eq,List.cons_append,List.nil_append,puts,Act.put,yA,yC,yF,yD,yE]at haf;subst haf;refine⟨?_,?_⟩
  ·simp only[yG,List.append_eq,List.cons_append,List.nil_append,aBf];refine⟨?_,?_,?_,?_,?_,?_,trivial⟩
   ·intro w' hS;refine yO rfl ?_;have d0:=hS.1.af.cell 0;have d1:=hS.1.af.cell 1;simp at d0 d1;have HS:=yH hS;clear hS;go_wp2_with fail;all_goals first|exact HS|exact⟨rfl,HS⟩|rfl
   ·intro w' hS;refine yO rfl ?_;have d0:=hS.1.al.cell 0;simp at d0;have HS:=yH hS;clear hS;go_wp2_with fail;all_goals first|exact HS|exact⟨rfl,HS⟩|rfl
   ·intro w' hS;refine yO rfl ?_;have d0:=hS.1.er.cell 0;simp at d0;have HS:=yH hS;clear hS;go_wp2_with fail;all_goals first|exact HS|exact⟨rfl,HS⟩|rfl
   ·intro w' hS;refine yO rfl ?_;have d0:=hS.1.af.cell 0;have d1:=hS.1.af.cell 1;simp at d0 d1;have HS:=yH hS;clear hS;refine wp_store_row 80 (.tmp 14) (.tmp 42) rfl (w.heap.size+1) #[.pointer (some ⟨G2,0,none⟩),.pointer (some ⟨gb2,0,none⟩)] rfl rfl 80 _ HS.out.1.af.out (by kernel_rfl) rfl (by simp[Value.oneCell']) ⟨rfl,?_⟩;exact⟨HS.out.1.stA _ _,SwK.stA HS.out.2 _⟩
   ·intro w' hS;refine yO rfl ?_;have d0:=hS.1.al.cell 0;have dz:=hS.1.al.frozen 0;simp at d0;have HS:=yH hS;clear hS;go_wp2_with fail;exact⟨HS.out.1.stL _ _ _,SwK.st HS.out.2 (w.heap.size+2) (by omega) _⟩
   intro w' hS;refine yO rfl ?_;have d0:=hS.1.er.cell 0;have dz:=hS.1.er.frozen 0;simp at d0;have HS:=yH hS;clear hS;go_wp2_with fail;exact⟨HS.out.1.stE _,SwK.st HS.out.2 (w.heap.size+3) (by omega) _⟩
  intro wq hq;have BQ:=yH (Bq.out.trans (hq.2.below Bq.out.size (fun j hj h=>by omega)));go_wp2_with fail;refine aRt (g:=w.heap.size) rfl rfl rfl hq.1 ?_;refine .inr ⟨G2,M2,gb2,vb3,a,c,σ,YES.out,HMA.out,rfl,Lq.out.keep hq.2 (by have:=GE3.out;omega) (by have:=GE3.out;omega),?_,?_,by have:=GE3.out;omega,by have:=GE3.out;omega,BQ.out⟩
  ·have h2:=GE3.out;refine PB.down5 (Pq.out.keep hq.2 (by omega) (fun b hb e=>by have h1:=(Pq.out.lt (.inr hb)).1;omega)) (by omega)
  have h2:=GE3.out;have h3:=HSZ.out;refine aBj.base (Rq.out.keep hq.2 (fun b hb e=>by have h1:=(Rq.out.type hb).1;omega)) (by omega)
 have q0:(er != 0)=true:=by simpa using hz
 have NO:=yH (aTx (ls:=ls) (l:=l) HER.out hz);have HZ:=yH hz;clear hz KH1 KS1 L1 P1;have RRq:=yH (RR1.out.stE er);have B2:=yH (B1.out.setCell (p:=⟨w.heap.size+3,0,none⟩) (by show w.heap.size≤w.heap.size+3;omega) (.int .i64 er));have x0:=RR1.out.er.cell 0;have fz:=RR1.out.er.frozen 0;have y0:=RRq.out.er.cell 0;simp at x0 y0;generalize hW2:w1.setCell ⟨w.heap.size+3,0,none⟩ (.int .i64 er)=W2 at *;have HW2:=yH hW2;clear hW2
 go_upto_region 4 with fail
 rw[HW2.out];go_wp2_with fail
 refine aAm (by kernel_rfl) [(.agg #[.pointer none,.pointer none]),(.slice none 0 0),(.int .i64 er),undef,undef,undef]
  (fun w'=>SwR w' w.heap.size none none none 0 0 er∧SwK w.heap.size W2 w') (by kernel_rfl) ⟨RRq.out.drew,(Keep.refl _ _).drew⟩ ?_
 intro af haf;simp only[yG,List.append_eq,List.cons_append,List.nil_append,puts,Act.put,yA,yC,yF,yD,yE]at haf;subst haf;refine⟨?_,?_⟩
 ·simp only[yG,List.append_eq,List.cons_append,List.nil_append,aBf];refine⟨?_,?_,?_,?_,?_,?_,trivial⟩
  ·intro w' hS;refine yO rfl ?_;have d0:=hS.1.af.cell 0;have d1:=hS.1.af.cell 1;simp at d0 d1;have HS:=yH hS;clear hS;go_wp2_with fail;all_goals first|exact HS|exact⟨rfl,HS⟩|rfl
  ·intro w' hS;refine yO rfl ?_;have d0:=hS.1.al.cell 0;simp at d0;have HS:=yH hS;clear hS;go_wp2_with fail;all_goals first|exact HS|exact⟨rfl,HS⟩|rfl
  ·intro w' hS;refine yO rfl ?_;have d0:=hS.1.er.cell 0;simp at d0;have HS:=yH hS;clear hS;go_wp2_with fail;all_goals first|exact HS|exact⟨rfl,HS⟩|rfl
  ·intro w' hS;refine yO rfl ?_;have d0:=hS.1.af.cell 0;have d1:=hS.1.af.cell 1;simp at d0 d1;have HS:=yH hS;clear hS;refine wp_store_row 80 (.tmp 14) (.tmp 31) rfl (w.heap.size+1) #[.pointer none,.pointer none] rfl rfl 80 _ HS.out.1.af.out (by kernel_rfl) rfl (by simp[Value.oneCell']) ⟨rfl,?_⟩;exact⟨HS.out.1.stA _ _,SwK.stA HS.out.2 _⟩
  ·intro w' hS;refine yO rfl ?_;have d0:=hS.1.al.cell 0;have dz:=hS.1.al.frozen 0;simp at d0;have HS:=yH hS;clear hS;go_wp2_with fail;exact⟨HS.out.1.stL _ _ _,SwK.st HS.out.2 (w.heap.size+2) (by omega) _⟩
  intro w' hS;refine yO rfl ?_;have d0:=hS.1.er.cell 0;have dz:=hS.1.er.frozen 0;simp at d0;have HS:=yH hS;clear hS;go_wp2_with fail;exact⟨HS.out.1.stE _,SwK.st HS.out.2 (w.heap.size+3) (by omega) _⟩
 intro wq hq;go_wp2_with fail;refine aGl (g:=w.heap.size) rfl rfl rfl hq.1 (by first|assumption|decide) ?_;exact .inl ⟨er,HZ.out,NO.out,rfl,aNa (B2.out.trans (hq.2.below B2.out.size (fun j hj h=>by omega))) yL⟩
theorem aRv{ps:List Int}{tk pt get give:Int}(C:SwS→Prop)(hs:∀σ s k,C σ→¬σ.n≤0→aAx ps σ.ls σ.l tk pt σ.n 1099511627776 (aC1 σ.l get give)=some (s,k)→¬σ.fs.length=64→C (aMq ps tk pt σ s k)):∀(fuel:Nat) {σ:SwS},C σ→C (aB3 ps tk pt get give fuel σ).2
 | fuel,σ,h=>by
  by_cases hn:σ.n≤0
  ·rw[aHn hn];exact h
  cases hf:aAx ps σ.ls σ.l tk pt σ.n 1099511627776 (aC1 σ.l get give)with
  | none=>rw[aHo hn hf];exact h
  | some sk=>
   obtain⟨s,k⟩:=sk
   by_cases hl:σ.fs.length=64
   ·rw[aHp hn hf hl];exact h
   cases fuel with
   | zero=>
    have e:aB3 ps tk pt get give 0 σ=(13,σ):=by
     unfold aB3;rw[if_neg hn,hf];simp only[];rw[if_neg hl]
    rw[e];exact h
   | succ fuel=>rw[aHq hn hf hl];exact aRv C hs fuel (hs σ s k h hn hf hl)
theorem swapN_ok{ps:List Int}{tk pt get give:Int}:∀(fuel:Nat) {σ:SwS},(aB3 ps tk pt get give fuel σ).1=0→(aB3 ps tk pt get give fuel σ).2.n≤0
 | fuel,σ,h=>by
  by_cases hn:σ.n≤0
  ·rw[aHn hn];exact hn
  cases hf:aAx ps σ.ls σ.l tk pt σ.n 1099511627776 (aC1 σ.l get give)with
  | none=>rw[aHo hn hf]at h;exact absurd h (by show ¬(11:Int)=0;decide)
  | some sk=>
   obtain⟨s,k⟩:=sk
   by_cases hl:σ.fs.length=64
   ·rw[aHp hn hf hl]at h;exact absurd h (by show ¬(13:Int)=0;decide)
   cases fuel with
   | zero=>
    have e:aB3 ps tk pt get give 0 σ=(13,σ):=by
     unfold aB3;rw[if_neg hn,hf];simp only[];rw[if_neg hl]
    rw[e]at h;exact absurd h (by show ¬(13:Int)=0;decide)
   | succ fuel=>
    rw[aHq hn hf hl]at h ⊢;exact swapN_ok fuel h
structure SwDone(ps:List Int)(ls:List Ln)(l:List Of)(N fr pt get give n most:Int)(σ:SwS):Prop where
 inv:aE1 ps ls l N fr pt get give n σ
 got:(σ.fs.map Fl.got).sum=n
 given:(σ.fs.map Fl.gi).sum≤most
 len:σ.fs.length≤64
 may:aD0 fr pt get give n most
 parts:fr∈ps∧pt∈ps
 is:aB3 ps fr pt get give 64 ⟨ls,l,[],n⟩=(0,σ)
theorem swapF_done{ps:List Int}{ls:List Ln}{l:List Of}{N fr pt get give n most:Int}{σ:SwS}(hI:LInv ps ls)(hJ:BInv l N)(h:aDv ps ls l fr pt get give n most=(0,σ)):SwDone ps ls l N fr pt get give n most σ:=by
 unfold aDv at h
 by_cases hm:aD0 fr pt get give n most
 ·rw[if_neg (fun q=>q hm)]at h
  by_cases hp:fr∉ps∨pt∉ps
  ·rw[if_pos hp]at h;exact absurd (congrArg Prod.fst h) (by show ¬(7:Int)=0;decide)
  rw[if_neg hp]at h
  by_cases he:(aB3 ps fr pt get give 64 ⟨ls,l,[],n⟩).1≠0
  ·rw[if_pos he]at h;exact absurd (congrArg Prod.fst h) he
  rw[if_neg he]at h;have he:=Decidable.not_not.1 he
  by_cases hg:most<((aB3 ps fr pt get give 64 ⟨ls,l,[],n⟩).2.fs.map Fl.gi).sum
  ·rw[if_pos hg]at h;exact absurd (congrArg Prod.fst h) (by show ¬(12:Int)=0;decide)
  rw[if_neg hg]at h;have hn1:=swapN_ok 64 he;have hinv:=aE1.ends (tk:=fr) (pt:=pt) (get:=get) (give:=give) 64 (aE1.start hI hJ (tk:=fr) (pt:=pt) (get:=get) (give:=give) (n0:=n))
  have hn2:0≤(aB3 ps fr pt get give 64 ⟨ls,l,[],n⟩).2.n∧(aB3 ps fr pt get give 64 ⟨ls,l,[],n⟩).2.fs.length≤64:=by
   have:=aRv (ps:=ps) (tk:=fr) (pt:=pt) (get:=get) (give:=give) (fun σ=>aE1 ps ls l N fr pt get give n σ∧0≤σ.n∧σ.fs.length≤64) (fun σ s k hc hn hf hl=>by
    obtain⟨i1,i2,i3⟩:=hc;obtain⟨a,b,c,⟨o,ho,_,_⟩,d⟩:=i1.step hf;refine⟨d,?_,?_⟩
    ·unfold aMq;rw[ho];show 0≤σ.n - k;omega
    unfold aMq;rw[ho];show(σ.fs++[_]).length≤64;rw[List.length_append,List.length_singleton];omega) 64 (σ:=⟨ls,l,[],n⟩) ⟨aE1.start hI hJ,by have:=hm.2.2.2.2.2.1.1;show 0≤n;omega,by simp⟩
   exact this.2
  rw[h]at hn1 hn2 hg hinv;dsimp only at hn1 hn2 hg hinv;refine⟨hinv,?_,by show _≤most;omega,hn2.2,hm,⟨Decidable.not_not.1 fun q=>hp (.inl q),Decidable.not_not.1 fun q=>hp (.inr q)⟩,h⟩;have:=hinv.sum;omega
 rw[if_pos hm]at h;exact absurd (congrArg Prod.fst h) (by show ¬(1:Int)=0;decide)
end Go.Proofs.YtngnfdnfpiiclaaGreat
namespace Go.Proofs.YtngnfdnfpiiclaaGreat
open Go.RowKit Go.Shelf
theorem ends_any(x:Fw)(w:World):Calls Tryz.prog 248 #[.agg #[.int .u8 x.fr,.int .u8 x.tt,.int .i64 x.am]] w fun e w'=>e=.returned (.tuple #[.int .u8 x.fr,.int .u8 x.tt])∧aAp w.heap.size w w':=by
 go_enter Tryz.func248,Tryz.ntmps248;go_wp2_with fail;have K:=Blk.new w #[.int .u8 x.fr,.int .u8 x.tt,.int .i64 x.am] 209;have B:=yH ((aAp.refl w.heap.size w).alloc yL (.cells #[.int .u8 x.fr,.int .u8 x.tt,.int .i64 x.am] 209));generalize w.alloc (.cells #[.int .u8 x.fr,.int .u8 x.tt,.int .i64 x.am] 209)=W at K B ⊢;have d0:=K.cell 0;have d1:=K.cell 1;simp at d0 d1;clear K
 go_quiet (fail)
 have B2:∀k,Hid (aAp w.heap.size w (W.drewN k)):=fun k=>yH ⟨⟨B.out.os,B.out.tape,B.out.output,B.out.size,B.out.block⟩,Nat.le_trans B.out.dr (Nat.le_add_right _ _)⟩
 clear B;go_wp2_with fail;refine bodyPost_ret (v:=.tuple #[.int .u8 x.fr,.int .u8 x.tt]) (by simp[results,Tryz.results248,go_sem]) rfl ?_;exact⟨rfl,(B2 _).out⟩
theorem byends_any(x y:Fw){w:World}{h:Nat}(hh:Blk w h #[.func (.func 248) #[] #[]] 350):
  Calls Tryz.prog 280 #[.agg #[.int .u8 x.fr,.int .u8 x.tt,.int .i64 x.am],.agg #[.int .u8 y.fr,.int .u8 y.tt,.int .i64 y.am],.pointer (some ⟨h,0,none⟩)] w fun e w'=>e=.returned (.int .i64 (ordF x y))∧aAp w.heap.size w w':=by
 unfold ordF;have c1:=yH (fun w=>aJh x.fr y.fr w);have c2:=yH (fun w=>aJh x.tt y.tt w);have e1:=yH (fun w=>ends_any x w);have e2:=yH (fun w=>ends_any y w);have hen:∀args w,(callFunc 248 args).run Tryz.prog w=.ok (.enter 248 args) w:=enters_of Tryz.func248 (by kernel_rfl) rfl;generalize cmpD x.fr y.fr=p at *;generalize cmpD x.tt y.tt=q at *;have d0:=hh.cell 0;simp at d0;have hlt:=hh.lt;have HH:=yH hh;clear hh;go_enter Tryz.func280,Tryz.ntmps280;go_wp2_with fail;have KY:=yH (pAB (w.alloc (.cells #[.int .u8 x.fr,.int .u8 x.tt,.int .i64 x.am] 209)) #[.int .u8 y.fr,.int .u8 y.tt,.int .i64 y.am] 209 (g:=w.heap.size+1) (by simp));have B0:=yH (((aAp.refl w.heap.size w).alloc yL (.cells #[.int .u8 x.fr,.int .u8 x.tt,.int .i64 x.am] 209)).alloc (by simp) (.cells #[.int .u8 y.fr,.int .u8 y.tt,.int .i64 y.am] 209));refine(e1.out _).mono ?_;rintro e w1 ⟨rfl,b1⟩;have HH1:=(HH.out.below B0.out.toBelow HH.out.lt).below b1.toBelow (by have:=B0.out.size;have:=HH.out.lt;omega);have KY1:=KY.out.below b1.toBelow KY.out.lt;have B1:=yH (B0.out.trans (b1.mono B0.out.size));clear b1 d0 hlt;have d0:=HH1.cell 0;have d1:=KY1.cell 0;have d2:=KY1.cell 1;have d3:=KY1.cell 2;simp at d0 d1 d2 d3;clear HH1 KY1;go_wp2_with fail;refine(e2.out _).mono ?_;rintro e w2 ⟨rfl,b2⟩;have B2:=yH (B1.out.trans (b2.mono B1.out.size));clear b2 d0 d1 d2 d3;go_wp2_with fail;refine(c1.out _).mono ?_;rintro e w3 ⟨rfl,rfl⟩;go_wp2_with fail;refine(c2.out _).mono ?_;rintro e w4 ⟨rfl,rfl⟩;have KB:=Blk.new w4 #[.int .i64 p,.int .i64 q] 3;have B3:=yH (B2.out.alloc B2.out.size (.cells #[.int .i64 p,.int .i64 q] 3));have HO:=yH (or_pair w4.heap.size 2 p q _ KB.lt (KB.cell 0) (KB.cell 1));clear KB;go_wp2_with fail;refine HO.out.mono ?_;rintro e w5 ⟨rfl,rfl⟩;go_wp2_with fail;go_ret;exact⟨rfl,B3.out⟩
end Go.Proofs.YtngnfdnfpiiclaaGreat
namespace Go.Proofs.YtngnfdnfpiiclaaGreat
open Go.RowKit Go.Shelf Go.Sort Go.Lib
instance:Inhabited Fw:=⟨⟨0,0,0⟩⟩
theorem aPt(x y:Fw):ordF x y<0↔(x.fr<y.fr∨(x.fr=y.fr∧x.tt<y.tt)):=by
 unfold ordF orD cmpD
 (repeat' split) <;> omega
theorem swoF:SWO (ltOf ordF) where
 irrefl x:=by unfold ltOf;rw[decide_eq_false_iff_not,aPt];omega
 trans x y z h1 h2:=by
  unfold ltOf at *;rw[decide_eq_true_eq,aPt]at *;omega
 ntrans x y z h1 h2:=by
  unfold ltOf at *;rw[decide_eq_false_iff_not,aPt]at *;omega
theorem flat_fws(ls:List Fw){j:Nat}(h:j<ls.length*3):(flatK Fw.vals 3 ls.toArray)[j]! = (aAn ls)[j]'(by rw[aC6];exact h):=by
 rw[get_flatK _ _ _ j (by simpa using h)];have h1:j/3<ls.length:=by omega
 have h2:j%3<3:=Nat.mod_lt _ (by omega);have h3:=aCk ls (j/3) (j%3) h2 h1;rw[show j/3*3+j%3=j by omega]at h3;rw[List.getElem?_eq_getElem (by rw[aC6];exact h)]at h3;have h4:(ls.toArray)[j/3]! = ls[j/3]:=by simp[h1]
 rw[h4,List.getElem!_eq_getElem?_getD,←h3];rfl
theorem holds_fws{w:World}{g:Nat}{cur:Array Value}{e:TypeId}{ls:List Fw}(hb:w.heap[g]? = some (.cells cur e (0,0)))(ht:cur.toList.take (ls.length*3)=aAn ls):HoldsK Fw.vals 3 w g 0 ls.toArray:=by
 intro j hj;have hj':j<ls.length*3:=by simpa using hj
 refine⟨?_,by simp[World.frozen?,hb]⟩;rw[flat_fws ls hj'];have h1:(cur.toList.take (ls.length*3))[j]? = (aAn ls)[j]? := by rw[ht]
 rw[List.getElem?_take_of_lt hj']at h1;simp only[World.cell?,hb,Nat.zero_add];simp only[Option.isSome_none,Bool.false_eq_true,if_false];rw[←Array.getElem?_toList,h1,List.getElem?_eq_getElem (by rw[aC6];exact hj')];rfl
theorem heap_fws{w:World}{g n:Nat}{os:Array Obj}{cur:Array Value}{e:TypeId}(d:Array Fw)(hb:w.heap[g]? = some (.cells cur e (0,0))):
  (sortWorldK Fw.vals 3 w g 0 n d os).heap[g]? = some (.cells (putCells id 0 (flatK Fw.vals 3 d) cur) e (0,0)):=by
 have hg:g<w.heap.size:=(Array.getElem?_eq_some_iff.1 hb).1;unfold sortWorldK putRowK;rw[heap_grow_old _ _ (by simpa using hg)];simp[putRow,mapBlock,Go.Sort.ahead,Array.getElem?_modify,hb,onCells]
theorem keep_fws{w:World}{g n:Nat}{os:Array Obj}(d:Array Fw):Keep (·=g) w (sortWorldK Fw.vals 3 w g 0 n d os):=by
 refine⟨rfl,rfl,rfl,by simp[sortWorldK,putRowK],fun k hk hne=>?_⟩;unfold sortWorldK putRowK;rw[heap_grow_old _ _ (by simpa using hk)];have:g≠k:=fun e=>hne e.symm
 simp[putRow,mapBlock,Go.Sort.ahead,Array.getElem?_modify,this]
theorem take_fws(cur:Array Value)(ls:List Fw)(h:ls.length*3≤cur.size):(putCells id 0 (flatK Fw.vals 3 ls.toArray) cur).toList.take (ls.length*3)=aAn ls:=by
 apply List.ext_getElem?;intro j
 by_cases hj:j<ls.length*3
 ·have hf:=flat_fws ls hj;rw[List.getElem?_take_of_lt hj,Array.getElem?_toList,List.getElem?_eq_getElem (by rw[aC6];exact hj),←hf];simp[putCells,hj,show j<cur.size by omega]
 rw[List.getElem?_take_eq_none (by omega),List.getElem?_eq_none (by rw[aC6];omega)]
theorem sorted_fws{f m:List Fw}(hp:f.Perm m)(hm:m.Pairwise fun x y=>keyD x<keyD y)(hb:∀x∈m,0≤x.tt∧x.tt≤255)(d:Array Fw)(h1:PermIn 0 f.toArray.size f.toArray d)(h2:SortedIn (ltOf ordF) 0 f.toArray.size d):d.toList=m:=by
 obtain⟨hs,_,hperm⟩:=h1
 have hpd:d.toList.Perm f:=by
  have e1:d.extract 0 f.toArray.size=d:=by rw[←hs,Array.extract_size]
  rw[e1,Array.extract_size]at hperm;simpa using hperm
 have hpl:=hpd.trans hp;have hne:d.toList.Pairwise fun x y=>keyD x≠keyD y:=(hpl.symm.pairwise_iff (fun{a b} (h:keyD a≠keyD b)=>h.symm)).1 (hm.imp fun h=>by omega)
 refine List.Perm.eq_of_pairwise (fun a b _ _ h1 h2=>absurd h1 (by omega)) (le:=fun x y=>keyD x<keyD y) ?_ hm hpl;rw[List.pairwise_iff_getElem]at hne ⊢;intro i j hi hj hij;have hn:=hne i j hi hj hij;have hi':i<d.size:=by simpa using hi
 have hj':j<d.size:=by simpa using hj
 have hso:=h2 i j (Nat.zero_le _) hij (by rw[←hs];exact hj');rw[getElem!_pos d i hi',getElem!_pos d j hj']at hso;have b1:=hb d[i] (hpl.mem_iff.1 (by simp));have b2:=hb d[j] (hpl.mem_iff.1 (by simp));unfold ltOf at hso;rw[decide_eq_false_iff_not,aPt]at hso;simp only[Array.getElem_toList]at hn ⊢;unfold keyD at hn ⊢;omega
end Go.Proofs.YtngnfdnfpiiclaaGreat
namespace Go.Proofs.YtngnfdnfpiiclaaGreat
open Go.RowKit Go.Shelf Go.Lib
open Go.Sort (grow flatK putCells HoldsK PermIn SortedIn SWO)
def sortF_ren:Go.Shelf.Ren:=⟨fun|6=>279|15=>141|14=>307|28=>186|29=>187|20=>322|21=>323|22=>324|23=>325|24=>326|25=>327|26=>328|27=>329|46=>345|47=>219|48=>220|49=>346|50=>347|57=>353|n=>n,fun|22=>203|24=>209|25=>372|3=>3|39=>227|0=>0|53=>278|55=>44|4=>4|46=>271|45=>270|50=>275|5=>5|9=>9|66=>310|70=>313|76=>358|77=>359|n=>n,fun|n=>n⟩
theorem sortF:Go.Proofs.SlLaysF0.n6 Tryz.prog sortF_ren:={
 mixed:=by kernel_rfl
 f6:=⟨Tryz.f279.name,by decide,Tryz.func279.trans (congrArg some (by kernel_rfl))⟩
 f14:=⟨Tryz.f307.name,by decide,Tryz.func307.trans (congrArg some (by kernel_rfl))⟩
 f15:=Tryz.func141.trans (congrArg some (by kernel_rfl))
 f20:=⟨Tryz.f322.name,by decide,Tryz.func322.trans (congrArg some (by kernel_rfl))⟩
 f21:=⟨Tryz.f323.name,by decide,Tryz.func323.trans (congrArg some (by kernel_rfl))⟩
 f22:=⟨Tryz.f324.name,by decide,Tryz.func324.trans (congrArg some (by kernel_rfl))⟩
 f23:=⟨Tryz.f325.name,by decide,Tryz.func325.trans (congrArg some (by kernel_rfl))⟩
 f24:=⟨Tryz.f326.name,by decide,Tryz.func326.trans (congrArg some (by kernel_rfl))⟩
 f25:=⟨Tryz.f327.name,by decide,Tryz.func327.trans (congrArg some (by kernel_rfl))⟩
 f26:=⟨Tryz.f328.name,by decide,Tryz.func328.trans (congrArg some (by kernel_rfl))⟩
 f27:=⟨Tryz.f329.name,by decide,Tryz.func329.trans (congrArg some (by kernel_rfl))⟩
 f28:=Tryz.func186.trans (congrArg some (by kernel_rfl))
 f29:=Tryz.func187.trans (congrArg some (by kernel_rfl))
 f46:=⟨Tryz.f345.name,by decide,Tryz.func345.trans (congrArg some (by kernel_rfl))⟩
 f47:=Tryz.func219.trans (congrArg some (by kernel_rfl))
 f48:=Tryz.func220.trans (congrArg some (by kernel_rfl))
 f49:=⟨Tryz.f346.name,by decide,Tryz.func346.trans (congrArg some (by kernel_rfl))⟩
 f50:=⟨Tryz.f347.name,by decide,Tryz.func347.trans (congrArg some (by kernel_rfl))⟩
 f57:=⟨Tryz.f353.name,by decide,Tryz.func353.trans (congrArg some (by kernel_rfl))⟩
 t0:=Tryz.underlying0
 a0:=Tryz.isAgg0
 z0:=Tryz.sizeOf0
 v0:=Tryz.zeroValue0
 t3:=Tryz.underlying3
 a3:=Tryz.isAgg3
 z3:=Tryz.sizeOf3
 v3:=Tryz.zeroValue3
 t4:=Tryz.underlying4
 a4:=Tryz.isAgg4
 z4:=Tryz.sizeOf4
 v4:=Tryz.zeroValue4
 t5:=Tryz.underlying5
 a5:=Tryz.isAgg5
 z5:=Tryz.sizeOf5
 v5:=Tryz.zeroValue5
 t9:=Tryz.underlying9
 a9:=Tryz.isAgg9
 z9:=Tryz.sizeOf9
 v9:=Tryz.zeroValue9
 t22:=Tryz.underlying203
 a22:=Tryz.isAgg203
 z22:=Tryz.sizeOf203
 v22:=Tryz.zeroValue203
 t25:=Tryz.underlying372
 a25:=Tryz.isAgg372
 z25:=Tryz.sizeOf372
 v25:=Tryz.zeroValue372
 t39:=Tryz.underlying227
 a39:=Tryz.isAgg227
 z39:=Tryz.sizeOf227
 v39:=Tryz.zeroValue227
 t45:=Tryz.underlying270
 a45:=Tryz.isAgg270
 z45:=Tryz.sizeOf270
 v45:=Tryz.zeroValue270
 t46:=Tryz.underlying271
 a46:=Tryz.isAgg271
 z46:=Tryz.sizeOf271
 v46:=Tryz.zeroValue271
 t50:=Tryz.underlying275
 a50:=Tryz.isAgg275
 z50:=Tryz.sizeOf275
 v50:=Tryz.zeroValue275
 t53:=Tryz.underlying278
 a53:=Tryz.isAgg278
 z53:=Tryz.sizeOf278
 v53:=Tryz.zeroValue278
 t55:=Tryz.underlying44
 a55:=Tryz.isAgg44
 z55:=Tryz.sizeOf44
 v55:=Tryz.zeroValue44
 t66:=Tryz.underlying310
 a66:=Tryz.isAgg310
 z66:=Tryz.sizeOf310
 v66:=Tryz.zeroValue310
 t70:=Tryz.underlying313
 a70:=Tryz.isAgg313
 z70:=Tryz.sizeOf313
 v70:=Tryz.zeroValue313
 t76:=Tryz.underlying358
 a76:=Tryz.isAgg358
 z76:=Tryz.sizeOf358
 v76:=Tryz.zeroValue358
 t77:=Tryz.underlying359
 a77:=Tryz.isAgg359
 z77:=Tryz.sizeOf359
 v77:=Tryz.zeroValue359 }
theorem sortF_any{w:World}{base h:Nat}{v:Value}{f m:List Fw}(hp:f.Perm m)(hm:m.Pairwise fun x y=>keyD x<keyD y)(hb:∀x∈m,0≤x.tt∧x.tt≤255)(hl:f.length≤1000)(ho:w.ownsRow base 209 3 v f.length (aAn f))
  (hh:Blk w h #[.func (.func 248) #[] #[]] 350):
  Calls Tryz.prog 279 #[v,.func (.func 280) #[] #[.pointer (some ⟨h,0,none⟩)]] w fun e w'=>e=.returned (.tuple #[])∧w'.ownsRow base 209 3 v m.length (aAn m)∧Keep (fun b=>v.ownBlock=some b) w w':=by
 have hlen:=hp.length_eq;rcases ho.2 with⟨rfl,h0⟩|⟨g,cap,cur,rfl,hbase,hbl,h1,h2,h3,h4⟩
 ·rw[h0]at hlen;have:m=[]:=List.eq_nil_of_length_eq_zero hlen.symm;subst this;refine(AnyF.slices_SortFunc_none { sortF with } none 0 (.func (.func 280) #[] #[.pointer (some ⟨h,0,none⟩)]) w).mono ?_;rintro e w' ⟨rfl,rfl⟩;exact⟨rfl,World.ownsRow_nil _ _ _ _,Keep.refl _ _⟩
 have hg:g<w.heap.size:=(Array.getElem?_eq_some_iff.1 hbl).1
 have hne:¬h=g:=fun e=>by
  subst e;have e1:w.heap[h]? = some (.cells #[.func (.func 248) #[] #[]] 350 (0,0)):=hh;rw[hbl]at e1;simp at e1
 have eg:∀args w,(callFunc 280 args).run Tryz.prog w=.ok (.enter 280 args) w:=enters_of Tryz.func280 (by kernel_rfl) rfl;have hcmp:CmpLays Tryz.prog 280 #[.pointer (some ⟨h,0,none⟩)] Fw.vals 3 ordF g 0 f.toArray.size w:=fun m os dk _ x y=>(byends_any x y (hh.keep (keep_fws dk) hne)).mono fun e w' ⟨he,hb⟩=>⟨he,hb.grown⟩
 have hc:=AnyQ.slices_SortFunc (P:=Tryz.prog) sortF 3 Tryz.isAgg209 Tryz.sizeOf209 Fw.vals (fun _=>rfl) (fun x u hu=>by simp[Fw.vals]at hu;rcases hu with rfl|rfl|rfl <;> rfl) ordF swoF 280 #[.pointer (some ⟨h,0,none⟩)] g 0 cap f.toArray w eg hcmp (holds_fws hbl h4) hg (by simp;omega);have hsz:f.toArray.size=f.length:=by simp
 rw[hsz]at hc;refine Calls.mono hc ?_;rintro e w' ⟨rfl,d,n,os,hp1,hs1,rfl⟩;have hd:=sorted_fws hp hm hb d (by rw[hsz];exact hp1) (by rw[hsz];exact hs1);have hda:d=m.toArray:=by rw[←hd]
 subst hda;refine⟨rfl,⟨aC6 m,.inr ⟨g,cap,_,by rw[hlen],hbase,heap_fws _ hbl,by omega,h2,by simp[putCells,h3],take_fws cur m (by omega)⟩⟩,(keep_fws _).mono fun k _ hk=>by rw[hk];rfl⟩
theorem sortE_any{w:World}{base:Nat}{v:Value}{f m:List Fw}(hp:f.Perm m)(hm:m.Pairwise fun x y=>keyD x<keyD y)(hb:∀x∈m,0≤x.tt∧x.tt≤255)(hl:f.length≤1000)(ho:w.ownsRow base 209 3 v f.length (aAn f)):
  Calls Tryz.prog 247 #[v,.func (.func 248) #[] #[]] w fun e w'=>e=.returned (.tuple #[])∧w'.ownsRow base 209 3 v m.length (aAn m)∧Keep (fun b=>v.ownBlock=some b) w w':=by
 have B:=yH ((Keep.refl (fun b=>v.ownBlock=some b) w).alloc (.cells #[.func (.func 248) #[] #[]] 350));have CS:=yH (sortF_any hp hm hb hl (ho.alloc (.cells #[.func (.func 248) #[] #[]] 350)) (Blk.new w #[.func (.func 248) #[] #[]] 350));clear hp hm hb hl ho;go_enter Tryz.func247,Tryz.ntmps247;go_wp2_with fail;refine CS.out.mono ?_;rintro e w1 ⟨rfl,h1,h2⟩;have H1:=yH h1;have H2:=yH (B.out.trans h2);clear h1 h2;go_wp2_with fail;go_end0;exact⟨rfl,H1.out,H2.out⟩
end Go.Proofs.YtngnfdnfpiiclaaGreat
