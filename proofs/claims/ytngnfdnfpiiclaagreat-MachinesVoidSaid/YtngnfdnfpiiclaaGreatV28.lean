/-
  Pieces of one proof, without what is not wanted: PSwap2, PSwap4, PB9, PFills5.
-/
import Derived.Test.YtngnfdnfpiiclaaGreatV02
import Derived.Test.YtngnfdnfpiiclaaGreatV05
import Derived.Test.YtngnfdnfpiiclaaGreatV15
import Derived.Test.YtngnfdnfpiiclaaGreatV16
import Derived.Test.YtngnfdnfpiiclaaGreatV19
import Derived.Test.YtngnfdnfpiiclaaGreatV21
import Derived.Test.YtngnfdnfpiiclaaGreatV24
import Derived.Test.YtngnfdnfpiiclaaGreatV25
import Derived.Test.YtngnfdnfpiiclaaGreatV27
set_option linter.unusedSimpArgs false
set_option linter.unusedVariables false
namespace Go.Proofs.YtngnfdnfpiiclaaGreat
open Go.RowKit
structure FstW (w:World) (ch cs cw cn base G M gb:Nat) (ps:List Int) (ls:List Ln) (l:List Of) (N:Int) (vb:Value) (fr pt get give n most want x:Int):Prop where
 h:Blk w ch #[.pointer (some ⟨G,0,none⟩),.pointer (some ⟨gb,0,none⟩)] 80
 s:Blk w cs #[.int .u8 fr,.int .u8 pt,.int .u8 get,.int .u8 give,.int .i64 n,.int .i64 most] 289
 wn:Blk w cw #[.int .i64 want] 2
 x:Blk w cn #[.int .i64 x] 2
 led:LedM w G M ps ls
 book:PB w base gb l N vb
 ne:¬ ch=cn∧¬ cs=cn∧¬ cw=cn∧¬ G=cn∧¬ M=cn∧¬ Foot gb vb cn
theorem FstW.keep {w w':World} {ch cs cw cn base G M gb:Nat} {ps:List Int} {ls:List Ln} {l:List Of} {N:Int} {vb:Value} {fr pt get give n most want:Int} {x y:Int} (h:FstW w ch cs cw cn base G M gb ps ls l N vb fr pt get give n most want x) (k:Keep (·=cn) w w') (hx:Blk w' cn #[.int .i64 y] 2):FstW w' ch cs cw cn base G M gb ps ls l N vb fr pt get give n most want y:=by
 obtain ⟨h1,h2,h3,h4,h5,h6⟩:=h.ne
 exact ⟨h.h.keep k h1,h.s.keep k h2,h.wn.keep k h3,hx,h.led.keep k h4 h5,h.book.keep k (fun e=>h6 (.inl e.symm)) (fun b hb e=>h6 (.inr (by rw [← e]; exact hb))),h.ne⟩
theorem FstW.below {w w':World} {ch cs cw cn base G M gb:Nat} {ps:List Int} {ls:List Ln} {l:List Of} {N:Int} {vb:Value} {fr pt get give n most want:Int} {x:Int} (h:FstW w ch cs cw cn base G M gb ps ls l N vb fr pt get give n most want x) (k:Below w.heap.size w w'):FstW w' ch cs cw cn base G M gb ps ls l N vb fr pt get give n most want x :=
 h.keep (Keep.of_below k) (h.x.below k h.x.lt)
set_option maxHeartbeats 8000000 in
theorem first1_any (HMy:FMayProg) (o:Of) {w:World} {ch cs cw cn base G M gb:Nat} {ps:List Int} {ls:List Ln} {l:List Of} {N:Int} {vb:Value} {fr pt get give n most want:Int} {x:Int} (h:FstW w ch cs cw cn base G M gb ps ls l N vb fr pt get give n most want x) (hI:LInv ps ls) (hJ:BInv l N) (ht:In8 fr) (hp:In8 pt) (hw:In64 want) (hs:0≤o.se∧o.se≤18446744073709551615) :
  Calls Tryz.prog 272 #[.agg #[.int .u64 o.se,.int .u8 o.ow,.int .u8 o.sl,.int .u8 o.bu,.int .i64 o.lf,.int .i64 o.nu,.int .i64 o.de],.pointer (some ⟨ch,0,none⟩),.pointer (some ⟨cs,0,none⟩),.pointer (some ⟨cw,0,none⟩),.pointer (some ⟨cn,0,none⟩)] w
   fun e w'=>e=.returned (.bool (decide (0<mayS ps ls l fr pt want 1099511627776 o.se)))∧FstW w' ch cs cw cn base G M gb ps ls l N vb fr pt get give n most want (mayS ps ls l fr pt want 1099511627776 o.se)∧Keep (·=cn) w w':=by
 have b0:=(Below.refl w.heap.size w).alloc (Nat.le_refl _) (.cells #[.int .u64 o.se,.int .u8 o.ow,.int .u8 o.sl,.int .u8 o.bu,.int .i64 o.lf,.int .i64 o.nu,.int .i64 o.de] 75)
 have KO:=Lib.hid (Blk.new w #[.int .u64 o.se,.int .u8 o.ow,.int .u8 o.sl,.int .u8 o.bu,.int .i64 o.lf,.int .i64 o.nu,.int .i64 o.de] 75)
 have HF:=Lib.hid (h.below b0)
 have B0:=Lib.hid b0
 have HLT:=Lib.hid h.x.lt
 have CM:=Lib.hid (pmayS_any HMy (h.led.below b0) hI (h.book.below b0) hJ o.se fr pt want 1099511627776 hs ht hp hw (by unfold In64; decide))
 obtain ⟨k,hk⟩:∃ k,mayS ps ls l fr pt want 1099511627776 o.se=k:=⟨_,rfl⟩
 rw [hk] at CM ⊢
 clear b0 h hI hJ ht hp hw hs hk
 generalize hW:w.alloc (.cells #[.int .u64 o.se,.int .u8 o.ow,.int .u8 o.sl,.int .u8 o.bu,.int .i64 o.lf,.int .i64 o.nu,.int .i64 o.de] 75)=W at *
 have HW:=Lib.hid hW
 clear hW
 have h0:=HF.out.h.cell 0; have h1:=HF.out.h.cell 1
 have hl:=HF.out.h.lt
 have s0:=HF.out.s.cell 0; have s1:=HF.out.s.cell 1
 have sl:=HF.out.s.lt
 have w0:=HF.out.wn.cell 0
 have wl:=HF.out.wn.lt
 have o0:=KO.out.cell 0
 have ol:=KO.out.lt
 have fz:=HF.out.x.frozen 0
 simp at h0 h1 s0 s1 w0 o0
 go_enter Tryz.func272,Tryz.ntmps272
 go_upto_region 1 with fail
 rw [HW.out]
 go_wp2_with fail
 refine CM.out.mono ?_
 rintro e w1 ⟨rfl,b1⟩
 have HF1:=Lib.hid (HF.out.below b1)
 have B1:=Lib.hid (B0.out.trans (b1.mono B0.out.size))
 clear b1 h0 h1 hl s0 s1 sl w0 wl o0 ol fz HF KO CM B0
 have x0:=HF1.out.x.cell 0
 have xl:=HF1.out.x.lt
 have fz:=HF1.out.x.frozen 0
 have hst:=(HF1.out.x.set 0 (.int .i64 k))
 have c0:=hst.cell 0
 simp at x0 c0
 clear hst
 go_wp2_with fail
 go_ret
 have kk:Keep (·=cn) w1 (w1.setCell ⟨cn,0,none⟩ (.int .i64 k)):=Keep.setCell (S:=(·=cn)) (Keep.refl _ _) (p:=⟨cn,0,none⟩) (.inl rfl) _
 refine ⟨rfl,HF1.out.keep kk (HF1.out.x.set 0 _),(Keep.of_below (S:=(·=cn)) B1.out).trans kk⟩
def IxfAt (W:World) (ch cs cw cn base G M gb:Nat) (ps:List Int) (ls:List Ln) (l:List Of) (N:Int) (vb:Value) (fr pt get give n most want:Int) (os:List Of) (i:Value) (wr:World):Prop :=
 ∃ (k:Nat) (x:Int),k≤os.length∧i=.int .i64 k∧FstW wr ch cs cw cn base G M gb ps ls l N vb fr pt get give n most want x∧Keep (·=cn) W wr∧Hid (firstS ps ls l fr pt want 1099511627776 os=firstS ps ls l fr pt want 1099511627776 (os.drop k))
def IxfPost (W:World) (ch cs cw cn base G M gb:Nat) (ps:List Int) (ls:List Ln) (l:List Of) (N:Int) (vb:Value) (fr pt get give n most want:Int) (os:List Of) (e:Ending) (w':World):Prop :=
 (∃ (k:Nat) (x:Int) (hk:k<os.length),e=.returned (.int .i64 k)∧FstW w' ch cs cw cn base G M gb ps ls l N vb fr pt get give n most want x∧Keep (·=cn) W w'∧firstS ps ls l fr pt want 1099511627776 os=some (os[k].se,x)) ∨
 (∃ x:Int,e=.returned (.int .i64 (-1))∧FstW w' ch cs cw cn base G M gb ps ls l N vb fr pt get give n most want x∧Keep (·=cn) W w'∧firstS ps ls l fr pt want 1099511627776 os=none)
set_option maxHeartbeats 16000000 in
set_option maxRecDepth 100000 in
theorem ixfirst_any (HMy:FMayProg) {w:World} {ch cs cw cn base b2 G M gb:Nat} {ps:List Int} {ls:List Ln} {l:List Of} {N:Int} {vb:Value} {fr pt get give n most want:Int} {x:Int} {os:List Of} {v:Value} (h:FstW w ch cs cw cn base G M gb ps ls l N vb fr pt get give n most want x) (hI:LInv ps ls) (hJ:BInv l N) (ht:In8 fr) (hp:In8 pt) (hw:In64 want)
  (hv:Rowed w b2 75 7 v os.length (ofCells os)) (hs:∀ o ∈ os,0≤o.se∧o.se≤18446744073709551615) (hne:∀ b,v.ownBlock=some b→¬ b=cn) :
  Calls Tryz.prog 271 #[v,.func (.func 272) #[] #[.pointer (some ⟨ch,0,none⟩),.pointer (some ⟨cs,0,none⟩),.pointer (some ⟨cw,0,none⟩),.pointer (some ⟨cn,0,none⟩)]] w (IxfPost w ch cs cw cn base G M gb ps ls l N vb fr pt get give n most want os):=by
 obtain ⟨ao,cap,rfl,hc1,hc2,hc3,hc4⟩:=hv.look
 have HC:=Lib.hid hc4
 have HNE:=Lib.hid hne
 have HFw:=Lib.hid h
 have CF:=Lib.hid (fun (o:Of) (w':World) (x:Int) (hs:0≤o.se∧o.se≤18446744073709551615) (q:FstW w' ch cs cw cn base G M gb ps ls l N vb fr pt get give n most want x)=>first1_any HMy o q hI hJ ht hp hw hs)
 have HS:=Lib.hid hs
 unfold maxLen at hc2
 clear hc3 hc4 hv h hI hJ ht hp hw hs hne
 go_enter Tryz.func271,Tryz.ntmps271
 go_wp2_with fail
 go_loopw [5,8] (fun _ i wr=>IxfAt w ch cs cw cn base G M gb ps ls l N vb fr pt get give n most want os i wr) (fun _ i _=>os.length - (intOf i).toNat)
 case atStart=>exact ⟨0,x,Nat.zero_le _,rfl,HFw.out,Keep.refl _ _,Lib.hid rfl⟩
 case round =>
  obtain ⟨k,x,hk,rfl,hF,hK,HE⟩:=hrel
  by_cases hkl:k<os.length
  ·have hki:(k:Int)<(os.length:Int):=by omega
   have hk0:(0:Int)≤(k:Int):=by omega
   obtain ⟨b,rfl,hb1,hb2,hcell,_⟩:=HC.out (by omega)
   have hbn:¬ b=cn:=HNE.out b rfl
   have hbl:b<wr.heap.size:=Nat.lt_of_lt_of_le hb2 hK.size
   obtain ⟨e0,e1,e2,e3,e4,e5,e6⟩:=of_cells (w:=wr) (fun j hj=>by rw [hK.cell (p:=⟨b,j,none⟩) hb2 hbn]; exact hcell j hj) hkl
   obtain ⟨m,hm⟩:∃ m,mayS ps ls l fr pt want 1099511627776 os[k].se=m:=⟨_,rfl⟩
   have C1:=Lib.hid (CF.out os[k] wr x (HS.out _ (List.getElem_mem _)) hF)
   rw [hm] at C1
   have HD:Hid (firstS ps ls l fr pt want 1099511627776 (os.drop k)=if 0<m then some (os[k].se,m) else firstS ps ls l fr pt want 1099511627776 (os.drop (k + 1))):=Lib.hid (by
    rw [List.drop_eq_getElem_cons hkl]
    show (if 0<mayS ps ls l fr pt want 1099511627776 os[k].se then some (os[k].se,mayS ps ls l fr pt want 1099511627776 os[k].se) else _)=_
    rw [hm])
   have HK:=Lib.hid hK
   have HKL:=Lib.hid hkl
   have HSE:Hid (∃ s,os[k].se=s):=Lib.hid ⟨_,rfl⟩
   clear hcell hm hF hK
   clear HSE
   generalize ho:os[k]=o at *
   have HO:=Lib.hid ho
   clear ho hkl
   by_cases hq:0<m
   ·rw [decide_eq_true hq] at C1
    rw [if_pos hq] at HD
    clear hq
    go_wp2_with fail
    refine C1.out.mono ?_
    rintro e w2 ⟨rfl,f2,k2⟩
    have HF2:=Lib.hid f2
    have HK2:=Lib.hid (HK.out.trans k2)
    clear f2 k2 e0 e1 e2 e3 e4 e5 e6 C1
    go_wp2_with fail
    go_ret
    exact .inl ⟨k,m,HKL.out,rfl,HF2.out,HK2.out,by rw [HE.out,HD.out]; exact congrArg (fun z:Of=>some (z.se,m)) HO.out.symm⟩
   ·rw [decide_eq_false hq] at C1
    rw [if_neg hq] at HD
    clear hq
    go_wp2_with fail
    refine C1.out.mono ?_
    rintro e w2 ⟨rfl,f2,k2⟩
    have HF2:=Lib.hid f2
    have HK2:=Lib.hid (HK.out.trans k2)
    clear f2 k2 e0 e1 e2 e3 e4 e5 e6 C1
    go_wp2_with fail
    go_roundw
    case rel=>exact ⟨k + 1,m,by have:=HKL.out; omega,by go_num,HF2.out,HK2.out,Lib.hid (by rw [HE.out,HD.out])⟩
    case measure=>simp [intOf]; omega
  ·have hkn:k=os.length:=by omega
   have HN:Hid (firstS ps ls l fr pt want 1099511627776 (os.drop k)=none):=Lib.hid (by rw [hkn,List.drop_length]; rfl)
   have HFl:=Lib.hid hF
   have HK:=Lib.hid hK
   clear hF hK
   go_wp2_with fail
   go_ret
   exact .inr ⟨x,rfl,HFl.out,HK.out,by rw [HE.out,HN.out]⟩
theorem best_seqs {l:List Of} {N:Int} (hJ:BInv l N) (s b:Int):∀ o ∈ bestO l s b,0≤o.se∧o.se≤18446744073709551615:=fun o ho=>by
 have hm:=hJ.bd o (best_mem hJ ho).1
 have:=hJ.n2
 omega
set_option maxHeartbeats 16000000 in
set_option maxRecDepth 100000 in
theorem pfirst_any (HMy:FMayProg) {w:World} {base G M gb:Nat} {ps:List Int} {ls:List Ln} {l:List Of} {N:Int} {vb:Value} {fr pt get give n most want:Int} (hL:LedM w G M ps ls) (hI:LInv ps ls) (hP:PB w base gb l N vb) (hJ:BInv l N) (ht:In8 fr) (hp:In8 pt) (hg:In8 get) (hv:In8 give) (hw:In64 want) :
  Calls Tryz.prog 234 #[.agg #[.int .u8 fr,.int .u8 pt,.int .u8 get,.int .u8 give,.int .i64 n,.int .i64 most],.agg #[.pointer (some ⟨G,0,none⟩),.pointer (some ⟨gb,0,none⟩)],.int .i64 want] w fun e w'=>e=.returned (.tuple #[.int .u64 ((firstS ps ls l fr pt want 1099511627776 (bestO l get give)).getD (0,0)).1,.int .i64 ((firstS ps ls l fr pt want 1099511627776 (bestO l get give)).getD (0,0)).2])∧Below w.heap.size w w':=by
 have hlt:=And.intro hL.blk.lt (And.intro hL.map.lt (fun b (hb:Foot gb vb b)=>(hP.lt hb).2))
 have b0:=(Below.refl w.heap.size w).alloc (Nat.le_refl _) (.cells #[.int .u8 fr,.int .u8 pt,.int .u8 get,.int .u8 give,.int .i64 n,.int .i64 most] 289)
 have b1:=b0.alloc b0.size (.cells #[.pointer (some ⟨G,0,none⟩),.pointer (some ⟨gb,0,none⟩)] 80)
 have b2:=b1.alloc b1.size (.cells #[.int .i64 want] 2)
 have b3:=b2.alloc b2.size (.cells #[.int .i64 0] 2)
 have hF0:FstW ((((w.alloc (.cells #[.int .u8 fr,.int .u8 pt,.int .u8 get,.int .u8 give,.int .i64 n,.int .i64 most] 289)).alloc (.cells #[.pointer (some ⟨G,0,none⟩),.pointer (some ⟨gb,0,none⟩)] 80)).alloc (.cells #[.int .i64 want] 2)).alloc (.cells #[.int .i64 0] 2)) (w.heap.size + 1) w.heap.size (w.heap.size + 2) (w.heap.size + 3) base G M gb ps ls l N vb fr pt get give n most want 0 :=
  ⟨((Blk.newAt (w.alloc (.cells #[.int .u8 fr,.int .u8 pt,.int .u8 get,.int .u8 give,.int .i64 n,.int .i64 most] 289)) #[.pointer (some ⟨G,0,none⟩),.pointer (some ⟨gb,0,none⟩)] 80 (g:=w.heap.size + 1) (by simp)).alloc _).alloc _,(((Blk.new w #[.int .u8 fr,.int .u8 pt,.int .u8 get,.int .u8 give,.int .i64 n,.int .i64 most] 289).alloc _).alloc _).alloc _,(Blk.newAt ((w.alloc (.cells #[.int .u8 fr,.int .u8 pt,.int .u8 get,.int .u8 give,.int .i64 n,.int .i64 most] 289)).alloc (.cells #[.pointer (some ⟨G,0,none⟩),.pointer (some ⟨gb,0,none⟩)] 80)) #[.int .i64 want] 2 (g:=w.heap.size + 2) (by simp)).alloc _,Blk.newAt _ _ _ (by simp),hL.below b3,hP.below b3,
   by omega,by omega,by omega,by omega,by omega,fun hb=>by have:=hlt.2.2 _ hb; omega⟩
 generalize hW:(((w.alloc (.cells #[.int .u8 fr,.int .u8 pt,.int .u8 get,.int .u8 give,.int .i64 n,.int .i64 most] 289)).alloc (.cells #[.pointer (some ⟨G,0,none⟩),.pointer (some ⟨gb,0,none⟩)] 80)).alloc (.cells #[.int .i64 want] 2)).alloc (.cells #[.int .i64 0] 2)=W at *
 have HW:=Lib.hid hW
 have HF:=Lib.hid hF0
 have B:=Lib.hid b3
 have CB:=Lib.hid (pbest_any (hP.below b3) hJ get give)
 have CI:=Lib.hid (fun (w':World) (x:Int) (b2:Nat) (v:Value) (q:FstW w' (w.heap.size + 1) w.heap.size (w.heap.size + 2) (w.heap.size + 3) base G M gb ps ls l N vb fr pt get give n most want x) (hv:Rowed w' b2 75 7 v (bestO l get give).length (ofCells (bestO l get give))) (hne:∀ b,v.ownBlock=some b→¬ b=w.heap.size + 3) =>
  ixfirst_any HMy q hI hJ ht hp hw hv (best_seqs hJ get give) hne)
 clear hlt b0 b1 b2 b3 hF0 hW hL hI hP hJ ht hp hg hv hw
 obtain ⟨os,hos⟩:∃ os,bestO l get give=os:=⟨_,rfl⟩
 rw [hos] at CB CI ⊢
 clear hos
 obtain ⟨R,hR⟩:∃ R,(firstS ps ls l fr pt want 1099511627776 os).getD (0,0)=R:=⟨_,rfl⟩
 rw [hR]
 have HR:=Lib.hid hR
 clear hR
 have h0:=HF.out.h.cell 0; have h1:=HF.out.h.cell 1
 have hl:=HF.out.h.lt
 have s2:=HF.out.s.cell 2; have s3:=HF.out.s.cell 3
 have sl:=HF.out.s.lt
 simp at h0 h1 s2 s3
 go_enter Tryz.func234,Tryz.ntmps234
 go_upto_region 1 with fail
 rw [HW.out]
 go_wp2_with fail
 refine CB.out.mono ?_
 rintro e w1 ⟨v,rfl,hv,b1⟩
 have HF1:=Lib.hid (HF.out.below b1)
 have HV:=Lib.hid hv
 have B1:=Lib.hid (B.out.trans (b1.mono B.out.size))
 have CX:=Lib.hid (CI.out w1 0 _ v HF1.out hv (fun b hb e=>by have:=(hv.type hb).1; have:=HF.out.x.lt; omega))
 have hmf:∀ (fn:Fn) (first cap:Array Value) (w:World),(Instr.makeFunc fn first cap).run Tryz.prog w=.ok (.func fn first cap) w:=fun _ _ _ _=>rfl
 have VNE:Hid (∀ b,v.ownBlock=some b→¬ b=w.heap.size + 3):=Lib.hid (fun b hb e=>by have:=(hv.type hb).1; have:=HF.out.x.lt; omega)
 clear hv b1 h0 h1 hl s2 s3 sl HF B CB CI
 go_wp2_with fail
 refine CX.out.mono ?_
 rintro e w2 (⟨k,x,hk,rfl,f2,k2,hfs⟩ | ⟨x,rfl,f2,k2,hfs⟩)
 ·have ER:Hid (R=(os[k].se,x)):=Lib.hid (by rw [← HR.out,hfs]; rfl)
  have B2:=Lib.hid (B1.out.trans (k2.below (B:=w.heap.size) B1.out.size (fun j hj e=>by omega)))
  obtain ⟨ao,cap,rfl,hc1,hc2,hc3,hc4⟩:=(HV.out.keep k2 VNE.out).look
  obtain ⟨b,rfl,hb1,hb2,hcell,_⟩:=hc4 (by omega)
  obtain ⟨e0,_⟩:=of_cells (w:=w2) hcell hk
  have HF2:=Lib.hid f2
  have x0:=f2.x.cell 0
  have xl:=f2.x.lt
  have fz:=f2.x.frozen 0
  have hst:=(HF2.out.x.set 0 (.int .i64 x)).cell 0
  simp at x0 hst
  have q0:decide ((k:Int)<0)=false:=by simp
  have q1:(0:Int)≤(k:Int)∧(k:Int)<(os.length:Int):=by omega
  obtain ⟨s,hs⟩:∃ s,os[k].se=s:=⟨_,rfl⟩
  rw [hs] at e0 ER
  clear hs f2 k2 hfs hcell hc3 hc4 HV CX
  unfold maxLen at hc2
  go_wp2_with fail
  go_region
  go_wp2_with fail
  refine bodyPost_ret (v:=.tuple #[.int .u64 s,.int .i64 x]) (by simp [results,Tryz.results234,go_sem,hst]) rfl ?_
  exact ⟨by rw [ER.out],(B2.out.setCell (by show w.heap.size≤w.heap.size + 3; omega) _).drew⟩
 ·have ER:Hid (R=(0,0)):=Lib.hid (by rw [← HR.out,hfs]; rfl)
  have B2:=Lib.hid (B1.out.trans (k2.below (B:=w.heap.size) B1.out.size (fun j hj e=>by omega)))
  have x0:=f2.x.cell 0
  have xl:=f2.x.lt
  have fz:=f2.x.frozen 0
  have hst:=(f2.x.set 0 (.int .i64 0)).cell 0
  simp at x0 hst
  clear f2 k2 hfs HV CX
  go_wp2_with fail
  refine bodyPost_ret (v:=.tuple #[.int .u64 0,.int .i64 0]) (by simp [results,Tryz.results234,go_sem,hst]) rfl ?_
  exact ⟨by rw [ER.out],B2.out.setCell (by show w.heap.size≤w.heap.size + 3; omega) _⟩
end Go.Proofs.YtngnfdnfpiiclaaGreat
namespace Go.Proofs.YtngnfdnfpiiclaaGreat
open Go.RowKit
theorem info_flp:(Tryz.prog.info? 241).map (fun i=>(i.zero,i.size,i.bytes))=some (some (.agg #[.int .u64 0,.int .u8 0,.int .u8 0,.int .i64 0,.int .i64 0]),5,32):=by kernel_rfl
noncomputable def swapG (ps:List Int) (fr pt get give most:Int) (σ:SwS):Int × SwS :=
 if (swapN ps fr pt get give 64 σ).1≠0 then swapN ps fr pt get give 64 σ else if most<((swapN ps fr pt get give 64 σ).2.fs.map Fl.gi).sum then (12,(swapN ps fr pt get give 64 σ).2) else swapN ps fr pt get give 64 σ
def FilAt (W:World) (base s1 G M gb:Nat) (ps:List Int) (ls0:List Ln) (l0:List Of) (N tk pt get give n0:Int) (av nv:Value) (wr:World):Prop :=
 ∃ (σ:SwS) (vb:Value),nv=.int .i64 σ.n∧LedM wr G M ps σ.ls∧PB wr base gb σ.l N vb∧(∀ b,vb.ownBlock=some b→b<s1∨W.heap.size≤b)∧wr.ownsRow W.heap.size 241 5 av σ.fs.length (flCells tk pt σ.fs)∧SwInv ps ls0 l0 N tk pt get give n0 σ∧σ.fs.length≤64 ∧
  Keep (fun k=>base≤k∧k<s1) W wr∧Hid (swapN ps tk pt get give 64 ⟨ls0,l0,[],n0⟩=swapN ps tk pt get give (64 - σ.fs.length) σ)
def PFil (w:World) (base G M gb:Nat) (ps:List Int) (ls:List Ln) (l:List Of) (N fr pt get give n most:Int) (e:Ending) (w':World):Prop :=
 (∃ (er:Int) (a:Option Addr) (k c:Nat),er≠0∧(swapG ps fr pt get give most ⟨ls,l,[],n⟩).1=er∧e=.returned (.tuple #[.slice a k c,.int .i64 er])∧Below base w w') ∨
 (∃ (vb:Value) (a:Option Addr) (c:Nat) (σ:SwS),swapG ps fr pt get give most ⟨ls,l,[],n⟩=(0,σ)∧e=.returned (.tuple #[.slice a σ.fs.length c,.int .i64 0])∧LedM w' G M ps σ.ls∧PB w' base gb σ.l N vb∧Rowed w' w.heap.size 241 5 (.slice a σ.fs.length c) σ.fs.length (flCells fr pt σ.fs)∧Below base w w')
set_option maxHeartbeats 32000000 in
set_option maxRecDepth 100000 in
theorem pfill_any (HMy:FMayProg) (HD:FDoProg) {w:World} {base G M gb:Nat} {ps:List Int} {ls:List Ln} {l:List Of} {N:Int} {vb:Value} (hL:LedM w G M ps ls) (hI:LInv ps ls) (hP:PB w base gb l N vb) (hJ:BInv l N) (hG:base≤G) (hM:base≤M) (hb:base≤w.heap.size)
  (fr pt get give n most:Int) (hf:In8 fr) (ht:In8 pt) (hg:In8 get) (hv:In8 give) (hn:1≤n∧n≤1099511627776) (hm:1≤most∧most≤1099511627776) :
  Calls Tryz.prog 198 #[.agg #[.int .u8 fr,.int .u8 pt,.int .u8 get,.int .u8 give,.int .i64 n,.int .i64 most],.agg #[.pointer (some ⟨G,0,none⟩),.pointer (some ⟨gb,0,none⟩)]] w (PFil w base G M gb ps ls l N fr pt get give n most):=by
 have b1:=(Below.refl w.heap.size w).alloc (Nat.le_refl _) (.cells #[.int .u8 fr,.int .u8 pt,.int .u8 get,.int .u8 give,.int .i64 n,.int .i64 most] 289)
 have b2:=b1.alloc b1.size (.cells #[.pointer (some ⟨G,0,none⟩),.pointer (some ⟨gb,0,none⟩)] 80)
 have KS:=Lib.hid ((Blk.new w #[.int .u8 fr,.int .u8 pt,.int .u8 get,.int .u8 give,.int .i64 n,.int .i64 most] 289).alloc (.cells #[.pointer (some ⟨G,0,none⟩),.pointer (some ⟨gb,0,none⟩)] 80))
 have KH:=Lib.hid (Blk.newAt (w.alloc (.cells #[.int .u8 fr,.int .u8 pt,.int .u8 get,.int .u8 give,.int .i64 n,.int .i64 most] 289)) #[.pointer (some ⟨G,0,none⟩),.pointer (some ⟨gb,0,none⟩)] 80 (g:=w.heap.size + 1) (by simp))
 have HL:=Lib.hid (hL.below b2)
 have HP:=Lib.hid (hP.below b2)
 have B:=Lib.hid b2
 have GE:=Lib.hid (show base≤G∧base≤M∧base≤w.heap.size∧G<w.heap.size∧M<w.heap.size∧gb<w.heap.size∧base≤gb∧(∀ b,vb.ownBlock=some b→b<w.heap.size) from ⟨hG,hM,hb,hL.blk.lt,hL.map.lt,hP.blk.lt,hP.ge,fun b hb=>(hP.lt (.inr hb)).2⟩)
 have II:=Lib.hid hI
 have JJ:=Lib.hid hJ
 have HF:=Lib.hid hf
 have HTo:=Lib.hid ht
 have HGe:=Lib.hid hg
 have HGi:=Lib.hid hv
 have HN:=Lib.hid hn
 have HM:=Lib.hid hm
 have HWS:Hid (((w.alloc (.cells #[.int .u8 fr,.int .u8 pt,.int .u8 get,.int .u8 give,.int .i64 n,.int .i64 most] 289)).alloc (.cells #[.pointer (some ⟨G,0,none⟩),.pointer (some ⟨gb,0,none⟩)] 80)).heap.size=w.heap.size + 2):=Lib.hid (by simp)
 clear b1 b2 hL hI hP hJ hG hM hb hf ht hg hv hn hm
 generalize hW:(w.alloc (.cells #[.int .u8 fr,.int .u8 pt,.int .u8 get,.int .u8 give,.int .i64 n,.int .i64 most] 289)).alloc (.cells #[.pointer (some ⟨G,0,none⟩),.pointer (some ⟨gb,0,none⟩)] 80)=W at *
 have HW:=Lib.hid hW
 clear hW
 have s4:=KS.out.cell 4
 have sl:=KS.out.lt
 simp at s4
 go_enter Tryz.func198,Tryz.ntmps198
 go_upto_region 1 with fail
 rw [HW.out]
 go_wp2_with fail
 go_loopw [4,6,7,8,9,10] (fun av nv _ _ _ _ wr=>FilAt W base w.heap.size G M gb ps ls l N fr pt get give n av nv wr) (fun _ nv _ _ _ _ _=>(intOf nv).toNat)
 case atStart=>exact ⟨⟨ls,l,[],n⟩,vb,rfl,HL.out,HP.out,fun b hb=>.inl (GE.out.2.2.2.2.2.2.2 b hb),World.ownsRow_nil _ _ _ _,SwInv.start II.out JJ.out,by simp,Keep.refl _ _,Lib.hid rfl⟩
 case round =>
  obtain ⟨σ,vb,rfl,hRL,hRB,hVB,hO,hS,hlen,hK,HE⟩:=hrel
  have RL:=Lib.hid hRL
  have RB:=Lib.hid hRB
  have VB:=Lib.hid hVB
  have OO:=Lib.hid hO
  have SI:=Lib.hid hS
  have KK:=Lib.hid hK
  have KSr:=Lib.hid (KS.out.keep hK (by omega))
  have KHr:=Lib.hid (KH.out.keep hK (by omega))
  have BR:Hid (Below base w wr):=Lib.hid ((B.out.mono GE.out.2.2.1).trans (hK.below (by have:=GE.out; have:=HWS.out; omega) (fun k hk h=>by omega)))
  obtain ⟨sn,hsn⟩:∃ sn,σ.n=sn:=⟨_,rfl⟩
  have HSN:=Lib.hid hsn
  have hsle:sn≤1099511627776:=by
   have h1:=hS.sum
   have h2:0≤(σ.fs.map Fl.got).sum:=hS.got_nn
   have:=HN.out
   omega
  rw [hsn]
  obtain ⟨ao,cap,hav,hc1,hc2,_,_⟩:=owns_open hO
  subst hav
  unfold maxLen at hc2
  clear hRL hRB hO hS hK hVB hsn s4 sl KS KH HL HP B
  by_cases hn0:0<sn
  ·have q0:decide (0<sn)=true:=by simpa using hn0
   have CF:=Lib.hid (pfirst_any (n:=n) (most:=most) HMy RL.out SI.out.linv RB.out SI.out.binv HF.out HTo.out HGe.out HGi.out (want:=sn) (by unfold In64; omega))
   have s0:=KSr.out.cell 0; have s1:=KSr.out.cell 1; have s2:=KSr.out.cell 2; have s3:=KSr.out.cell 3; have s4:=KSr.out.cell 4; have s5:=KSr.out.cell 5
   have sl:=KSr.out.lt
   have h0:=KHr.out.cell 0; have h1:=KHr.out.cell 1
   have hl:=KHr.out.lt
   simp at s0 s1 s2 s3 s4 s5 h0 h1
   go_wp2_with fail
   refine CF.out.mono ?_
   rintro e w1 ⟨rfl,b1⟩
   have KS1:=Lib.hid (KSr.out.below b1 KSr.out.lt)
   have KH1:=Lib.hid (KHr.out.below b1 KHr.out.lt)
   have RL1:=Lib.hid (RL.out.below b1)
   have RB1:=Lib.hid (RB.out.below b1)
   have OO1:=Lib.hid (owns_below OO.out b1)
   have KK1:=Lib.hid (KK.out.trans (Keep.of_below b1))
   have B1:=Lib.hid (BR.out.trans (b1.mono (by have:=BR.out.size; have:=GE.out; omega)))
   clear b1 s0 s1 s2 s3 s4 s5 sl h0 h1 hl CF KSr KHr RL RB OO KK BR
   cases hfs:firstS ps σ.ls σ.l fr pt sn 1099511627776 (bestO σ.l get give) with
   | none =>
    have NO:Hid ((swapG ps fr pt get give most ⟨ls,l,[],n⟩).1=11):=Lib.hid (by
     have e:swapN ps fr pt get give 64 ⟨ls,l,[],n⟩=(11,σ):=by rw [HE.out,swapN_none (by rw [HSN.out]; omega) (by rw [HSN.out]; exact hfs)]
     unfold swapG; rw [e]; simp only []; rw [if_pos (by simp)])
    clear hfs
    dsimp only [Option.getD_none]
    go_wp2_with fail
    go_ret2
    exact .inl ⟨11,_,_,_,by decide,NO.out,rfl,B1.out⟩
   | some sk =>
    obtain ⟨s0,k0⟩:=sk
    obtain ⟨k1,k2,ok,⟨o,ho,_,_⟩,hnext⟩:=SI.out.step (s:=s0) (k:=k0) (by rw [HSN.out]; exact hfs)
    rw [HSN.out] at k2
    have HFS:=Lib.hid hfs
    have HOK:=Lib.hid ok
    have HO:=Lib.hid ho
    have HNX:=Lib.hid hnext
    have HSQ:=Lib.hid (show 0≤o.se∧o.se≤18446744073709551615 from by have h1:=SI.out.binv.bd o (findO_mem ho).1; have h2:=SI.out.binv.n2; omega)
    rw [(findO_mem ho).2] at HSQ
    have z5:decide (k0<1)=false:=by simp; omega
    clear hfs ok ho hnext
    dsimp only [Option.getD_some]
    by_cases hfull:σ.fs.length=64
    ·have z6:((σ.fs.length:Int)==64)=true:=by simp; omega
     have NO:Hid ((swapG ps fr pt get give most ⟨ls,l,[],n⟩).1=13):=Lib.hid (by
      have e:swapN ps fr pt get give 64 ⟨ls,l,[],n⟩=(13,σ):=by rw [HE.out,swapN_full (by rw [HSN.out]; omega) (by rw [HSN.out]; exact HFS.out) hfull]
      unfold swapG; rw [e]; simp only []; rw [if_pos (by simp)])
     clear hfull
     go_wp2_with fail
     go_ret2
     exact .inl ⟨13,_,_,_,by decide,NO.out,rfl,B1.out⟩
    ·have z6:((σ.fs.length:Int)==64)=false:=by simp; omega
     have HL64:=Lib.hid (show σ.fs.length + 1≤64 by omega)
     have CDo:=Lib.hid (pdoS_any HD RL1.out SI.out.linv RB1.out SI.out.binv s0 fr pt k0 HSQ.out HF.out HTo.out ⟨by omega,by omega⟩)
     have s0_:=KS1.out.cell 0; have s1_:=KS1.out.cell 1
     have sl:=KS1.out.lt
     have h0:=KH1.out.cell 0; have h1:=KH1.out.cell 1
     have hl:=KH1.out.lt
     simp at s0_ s1_ h0 h1
     clear hfull
     go_wp2_with fail
     refine CDo.out.mono ?_
     rintro e wd hd
     clear s0_ s1_ sl h0 h1 hl CDo
     rcases hd with ⟨hno,_⟩ | ⟨_,o',x,vb',ho',hx,rfl,hRL',hRB',kk,hmv⟩
     ·exact absurd HOK.out hno
     rw [HO.out] at ho'
     cases ho'
     have EN:Hid (nextS ps fr pt σ s0 k0=⟨filledS ps σ.ls o fr pt k0 x,takeL σ.l s0 k0,σ.fs++[⟨s0,k0,x⟩],sn - k0⟩):=Lib.hid (by unfold nextS; rw [HO.out,hx,← HSN.out])
     have hWS:=HWS.out
     have hge:=GE.out
     have hsz:=KK1.out.size
     have hvb:∀ j,j<W.heap.size→(j=G∨j=M∨Foot gb vb j)→base≤j∧j<w.heap.size:=by
      intro j hj h
      rcases h with h | h | h | h
      ·omega
      ·omega
      ·omega
      ·have h1:=VB.out j h
       have h2:=(RB1.out.lt (b:=j) (.inr h)).1
       omega
     have KSd:=Lib.hid (KS1.out.keep kk (fun h=>by have:=hvb _ (by omega) h; omega))
     have KHd:=Lib.hid (KH1.out.keep kk (fun h=>by have:=hvb _ (by omega) h; omega))
     have OOd:=Lib.hid (owns_keep OO1.out kk (fun b hb h=>by
      have h1:=(owns_type OO1.out hb).1
      rcases h with h | h | h | h
      ·omega
      ·omega
      ·omega
      ·exact own_own_ne OO1.out RB1.out.row (by decide) b hb h))
     have KKd:=Lib.hid (KK1.out.trans_new kk hvb)
     have VBd:=Lib.hid (show ∀ b,vb'.ownBlock=some b→b<w.heap.size∨W.heap.size≤b from fun j hj=>by
      rcases hmv j hj with h | h
      ·exact VB.out j h
      ·exact .inr (by omega))
     have bf:=(Below.refl wd.heap.size wd).alloc (Nat.le_refl _) (.cells #[.int .u64 s0,.int .u8 fr,.int .u8 pt,.int .i64 k0,.int .i64 x] 241)
     have KF:=Lib.hid (Blk.new wd #[.int .u64 s0,.int .u8 fr,.int .u8 pt,.int .i64 k0,.int .i64 x] 241)
     have RLf:=Lib.hid (hRL'.below bf)
     have RBf:=Lib.hid (hRB'.below bf)
     have OOf:=Lib.hid (owns_below OOd.out bf)
     have KSf:=Lib.hid (KSd.out.below bf KSd.out.lt)
     have KHf:=Lib.hid (KHd.out.below bf KHd.out.lt)
     have KKf:=Lib.hid (KKd.out.trans (Keep.of_below bf))
     clear bf hRL' hRB' kk hmv hx RL1 RB1 OO1 KK1 KS1 KH1 KSd KHd OOd KKd B1 VB hvb hWS hge hsz
     generalize hWF:wd.alloc (.cells #[.int .u64 s0,.int .u8 fr,.int .u8 pt,.int .i64 k0,.int .i64 x] 241)=WF at *
     have HWF:=Lib.hid hWF
     clear hWF
     have f0:=KF.out.cell 0; have f1:=KF.out.cell 1; have f2:=KF.out.cell 2; have f3:=KF.out.cell 3; have f4:=KF.out.cell 4
     have fl:=KF.out.lt
     simp at f0 f1 f2 f3 f4
     have hb5:=KKf.out.size
     go_upto_region 9 with fail
     rw [HWF.out]
     go_wp2_with (at_builtin; refine wpList_append_one _ rfl (.tmp 42) (.tmp 44) 235 241 rfl Tryz.underlying235 info_flp rfl (by decide) (by decide) W.heap.size _ σ.fs.length _ rfl (OOf.out.alloc _) WF.heap.size 1 [.int .u64 s0,.int .u8 fr,.int .u8 pt,.int .i64 k0,.int .i64 x] rfl rfl (Blk.new _ _ _) (by simp [Value.oneCell']) (by have:=HL64.out; omega) (by simp; omega) ?_)
     intro v2 w2 ho2 hg2
     have KG:Keep (fun k=>(Value.slice ao σ.fs.length cap).ownBlock=some k) WF w2:=((Keep.refl _ WF).alloc _).grown hg2 (fun k hk=>.inl hk)
     have RL2:=Lib.hid (RLf.out.keep KG (fun h=>by have:=(owns_type OOf.out h).1; have:=GE.out; have:=HWS.out; omega) (fun h=>by have:=(owns_type OOf.out h).1; have:=GE.out; have:=HWS.out; omega))
     have RB2:=Lib.hid (RBf.out.keep KG (fun h=>by have:=(owns_type OOf.out h).1; have:=GE.out; have:=HWS.out; omega) (fun b hb h=>own_own_ne OOf.out RBf.out.row (by decide) b h hb))
     have KK2:=Lib.hid (KKf.out.trans_new KG (fun j hj h=>by have:=(owns_type OOf.out h).1; omega))
     have O2:=Lib.hid (show w2.ownsRow W.heap.size 241 5 v2 (σ.fs++[(⟨s0,k0,x⟩:Fl)]).length (flCells fr pt (σ.fs++[(⟨s0,k0,x⟩:Fl)])) from by rw [flCells_next]; simpa [Fl.vals] using ho2)
     have HE2:Hid (swapN ps fr pt get give 64 ⟨ls,l,[],n⟩=swapN ps fr pt get give (64 - (σ.fs.length + 1)) (nextS ps fr pt σ s0 k0)):=Lib.hid (by
      rw [HE.out,← swapN_next (by rw [HSN.out]; omega) (by rw [HSN.out]; exact HFS.out) (by have:=HL64.out; omega)]
      congr 1
      have:=HL64.out
      omega)
     have NX2:=Lib.hid HNX.out
     rw [EN.out] at HE2 NX2
     clear KG ho2 hg2 f0 f1 f2 f3 f4 fl hb5 EN HNX HE
     go_wp2_with fail
     exact ⟨⟨⟨filledS ps σ.ls o fr pt k0 x,takeL σ.l s0 k0,σ.fs++[⟨s0,k0,x⟩],sn - k0⟩,_,rfl,RL2.out,RB2.out,VBd.out,O2.out,NX2.out,by simp; have:=HL64.out; omega,KK2.out,Lib.hid (by rw [HE2.out]; simp)⟩,by simp [intOf]; omega⟩
  ·have q0:decide (0<sn)=false:=by simpa using hn0
   have CG:=Lib.hid (fun (w':World) (h:Below wr.heap.size wr w')=>pgiven_any (owns_below OO.out h) (fun f hf=>by obtain ⟨_,_,_,_,_,_,_,h1,h2⟩:=SI.out.fs f hf; exact ⟨by omega,by omega⟩) (by omega))
   have GB:=SI.out.given_bd
   have HEN:Hid (swapN ps fr pt get give 64 ⟨ls,l,[],n⟩=(0,σ)):=Lib.hid (by rw [HE.out,swapN_done (by rw [HSN.out]; omega)])
   obtain ⟨gs,hgs⟩:∃ gs,(σ.fs.map Fl.gi).sum=gs:=⟨_,rfl⟩
   rw [hgs] at CG GB
   have hok:okN gs=gs:=if_pos ⟨by omega,by omega⟩
   rw [hok] at CG
   have HGS:=Lib.hid hgs
   clear hgs hok
   have HMo:=Lib.hid (show In64 most from ⟨by have:=HM.out; omega,by have:=HM.out; omega⟩)
   go_wp2_with fail
   by_cases hq:most<gs
   ·have q1:decide (gs > most)=true:=by simpa using hq
    have q2:decide (most<gs)=true:=by simpa using hq
    have NO:Hid ((swapG ps fr pt get give most ⟨ls,l,[],n⟩).1=12):=Lib.hid (by unfold swapG; rw [HEN.out]; simp only []; rw [if_neg (by simp),HGS.out,if_pos hq])
    clear hq
    refine region_still (by kernel_rfl) [(.slice ao σ.fs.length cap),(.int .i64 gs),(.pointer (some ⟨w.heap.size,5,none⟩)),(.int .i64 most),(.bool true)]
     (fun w'=>Below wr.heap.size wr w') (by kernel_rfl) (Below.refl _ _).drew ?_
    intro af haf
    simp only [List.toList_toArray,List.append_eq,List.cons_append,List.nil_append,puts,Act.put,List.getD_cons_zero,List.getD_cons_succ,List.setIfInBounds_toArray,List.set_cons_succ,List.set_cons_zero] at haf
    subst haf
    refine ⟨?_,?_⟩
    ·simp only [List.toList_toArray,List.append_eq,List.cons_append,List.nil_append,EachTo]
     refine ⟨?_,?_,?_,?_,?_,trivial⟩
     ·intro w' hS
      refine OpTo.plain ?_ ?_
      exact rfl
      have HS:=Lib.hid hS
      clear hS
      go_wp2_with fail
      all_goals first | exact HS.out | exact ⟨rfl,HS.out⟩ | rfl | exact ⟨by omega,HS.out⟩
     ·intro w' hS
      refine OpTo.plain ?_ ?_
      exact rfl
      have HS:=Lib.hid hS
      clear hS
      go_wp2_with fail
      refine (CG.out _ HS.out).mono ?_
      rintro e w'' ⟨rfl,hb2⟩
      exact ⟨rfl,andB HS.out hb2⟩
     ·intro w' hS
      refine OpTo.plain ?_ ?_
      exact rfl
      have hl0:=Nat.lt_of_lt_of_le KSr.out.lt hS.size
      have HS:=Lib.hid hS
      clear hS
      go_wp2_with fail
      all_goals first | exact HS.out | exact ⟨rfl,HS.out⟩ | rfl | exact ⟨by omega,HS.out⟩
     ·intro w' hS
      refine OpTo.plain ?_ ?_
      exact rfl
      have d0_0:=(KSr.out.below hS KSr.out.lt).cell 0
      have d0_1:=(KSr.out.below hS KSr.out.lt).cell 1
      have d0_2:=(KSr.out.below hS KSr.out.lt).cell 2
      have d0_3:=(KSr.out.below hS KSr.out.lt).cell 3
      have d0_4:=(KSr.out.below hS KSr.out.lt).cell 4
      have d0_5:=(KSr.out.below hS KSr.out.lt).cell 5
      simp at d0_0 d0_1 d0_2 d0_3 d0_4 d0_5
      have HS:=Lib.hid hS
      clear hS
      go_wp2_with fail
      all_goals first | exact HS.out | exact ⟨rfl,HS.out⟩ | rfl | exact ⟨by omega,HS.out⟩
     ·intro w' hS
      refine OpTo.plain ?_ ?_
      exact rfl
      have HS:=Lib.hid hS
      clear hS
      go_wp2_with fail
      all_goals first | exact HS.out | exact ⟨rfl,HS.out⟩ | rfl | exact ⟨by omega,HS.out⟩
    intro w' hS
    have B2:=Lib.hid (BR.out.trans (hS.mono (by have:=BR.out.size; have:=GE.out; omega)))
    clear hS
    go_wp2_with fail
    go_ret2
    exact .inl ⟨12,_,_,_,by decide,NO.out,rfl,B2.out⟩
   ·have q1:decide (gs > most)=false:=by simpa using hq
    have q2:decide (most<gs)=false:=by simpa using hq
    have YES:Hid (swapG ps fr pt get give most ⟨ls,l,[],n⟩=(0,σ)):=Lib.hid (by unfold swapG; rw [HEN.out]; simp only []; rw [if_neg (by simp),HGS.out,if_neg hq])
    clear hq
    refine region_still (by kernel_rfl) [(.slice ao σ.fs.length cap),(.int .i64 gs),(.pointer (some ⟨w.heap.size,5,none⟩)),(.int .i64 most),(.bool false)]
     (fun w'=>Below wr.heap.size wr w') (by kernel_rfl) (Below.refl _ _).drew ?_
    intro af haf
    simp only [List.toList_toArray,List.append_eq,List.cons_append,List.nil_append,puts,Act.put,List.getD_cons_zero,List.getD_cons_succ,List.setIfInBounds_toArray,List.set_cons_succ,List.set_cons_zero] at haf
    subst haf
    refine ⟨?_,?_⟩
    ·simp only [List.toList_toArray,List.append_eq,List.cons_append,List.nil_append,EachTo]
     refine ⟨?_,?_,?_,?_,?_,trivial⟩
     ·intro w' hS
      refine OpTo.plain ?_ ?_
      exact rfl
      have HS:=Lib.hid hS
      clear hS
      go_wp2_with fail
      all_goals first | exact HS.out | exact ⟨rfl,HS.out⟩ | rfl | exact ⟨by omega,HS.out⟩
     ·intro w' hS
      refine OpTo.plain ?_ ?_
      exact rfl
      have HS:=Lib.hid hS
      clear hS
      go_wp2_with fail
      refine (CG.out _ HS.out).mono ?_
      rintro e w'' ⟨rfl,hb2⟩
      exact ⟨rfl,andB HS.out hb2⟩
     ·intro w' hS
      refine OpTo.plain ?_ ?_
      exact rfl
      have hl0:=Nat.lt_of_lt_of_le KSr.out.lt hS.size
      have HS:=Lib.hid hS
      clear hS
      go_wp2_with fail
      all_goals first | exact HS.out | exact ⟨rfl,HS.out⟩ | rfl | exact ⟨by omega,HS.out⟩
     ·intro w' hS
      refine OpTo.plain ?_ ?_
      exact rfl
      have d0_0:=(KSr.out.below hS KSr.out.lt).cell 0
      have d0_1:=(KSr.out.below hS KSr.out.lt).cell 1
      have d0_2:=(KSr.out.below hS KSr.out.lt).cell 2
      have d0_3:=(KSr.out.below hS KSr.out.lt).cell 3
      have d0_4:=(KSr.out.below hS KSr.out.lt).cell 4
      have d0_5:=(KSr.out.below hS KSr.out.lt).cell 5
      simp at d0_0 d0_1 d0_2 d0_3 d0_4 d0_5
      have HS:=Lib.hid hS
      clear hS
      go_wp2_with fail
      all_goals first | exact HS.out | exact ⟨rfl,HS.out⟩ | rfl | exact ⟨by omega,HS.out⟩
     ·intro w' hS
      refine OpTo.plain ?_ ?_
      exact rfl
      have HS:=Lib.hid hS
      clear hS
      go_wp2_with fail
      all_goals first | exact HS.out | exact ⟨rfl,HS.out⟩ | rfl | exact ⟨by omega,HS.out⟩
    intro w' hS
    have B2:=Lib.hid (BR.out.trans (hS.mono (by have:=BR.out.size; have:=GE.out; omega)))
    have RL2:=Lib.hid (RL.out.below hS)
    have RB2:=Lib.hid (RB.out.below hS)
    have CL:=Lib.hid (clipFl_any (owns_below OO.out hS))
    have HLE:=Lib.hid (show w.heap.size≤W.heap.size by have:=HWS.out; omega)
    clear hS
    go_wp2_with fail
    refine CL.out.mono ?_
    rintro e w2 ⟨v,rfl,hv,_,rfl⟩
    obtain ⟨a,c,rfl,_,_,_,_⟩:=hv.look
    have HV:=Lib.hid (hv.base HLE.out)
    clear hv CL
    go_wp2_with fail
    go_ret2
    exact .inr ⟨_,a,c,σ,YES.out,rfl,RL2.out,RB2.out,HV.out,B2.out⟩
end Go.Proofs.YtngnfdnfpiiclaaGreat
namespace Go.Proofs.YtngnfdnfpiiclaaGreat
open Go.RowKit
def BCopyPost (base:Nat) (l:List Of) (N:Int) (w:World) (e:Ending) (w':World):Prop :=
 ∃ g' vl',e=.returned (.pointer (some ⟨g',0,none⟩))∧PB w' base g' l N vl'∧w.heap.size≤g'∧(∀ b,vl'.ownBlock=some b→w.heap.size≤b)∧Below w.heap.size w w'
set_option maxHeartbeats 4000000 in
set_option maxRecDepth 100000 in
theorem pcopyB_any {w:World} {base g:Nat} {l:List Of} {N:Int} {vl:Value} (h:PB w base g l N vl) (h1:1≤N) (hl:l.length≤1000) :
  Calls Tryz.prog 77 #[.pointer (some ⟨g,0,none⟩)] w (BCopyPost base l N w):=by
 have CM:=Lib.hid (pmade_any h.blk h1)
 have H:=Lib.hid h
 obtain ⟨ao,cap,rfl,_⟩:=owns_open h.row
 have hgl:=h.blk.lt
 have d0:=h.blk.cell 0
 have d1:=h.blk.cell 1
 simp at d0 d1
 have CC:=Lib.hid (cloneO_any (w:=w.drew) (owns_below h.row (Below.refl _ _).drew) hl)
 have hbs:=Nat.le_trans h.ge (Nat.le_of_lt hgl)
 clear h h1
 go_enter Tryz.func77,Tryz.ntmps77
 go_wp2_with fail
 refine CM.out.mono ?_
 rintro e w ⟨rfl,rfl⟩
 go_wp2_with fail
 go_region_with ((refine CC.out.mono ?_; rintro e w1 ⟨v',rfl,o1,b1⟩; have HO:=Lib.hid o1; have HB:=Lib.hid b1; have k1:=(H.out.blk.drew).below b1 hgl; have c1:=k1.cell 1; have l1:=k1.lt; simp at c1; obtain ⟨ao',cap',hv',_⟩:=owns_open o1; subst hv'; clear o1 b1 k1))
 all_goals
  go_wp2
  refine bodyPost_ret (v:=.pointer (some ⟨w1.heap.size,0,none⟩)) (by simp [results,Tryz.results77,go_sem]) rfl ?_
  have bw:=(Below.refl w1.heap.size w1).alloc (Nat.le_refl _) (.cells #[.slice ao' l.length cap',.int .u64 N] 158)
  exact ⟨_,_,rfl,⟨Blk.new _ _ _,Nat.le_trans hbs HB.out.size,owns_base (owns_below HO.out bw) hbs⟩,HB.out.size,fun b hb=>(owns_type HO.out hb).1,(Below.undrew HB.out).trans (bw.mono HB.out.size)⟩
end Go.Proofs.YtngnfdnfpiiclaaGreat
namespace Go.Proofs.YtngnfdnfpiiclaaGreat
open Go.RowKit
theorem owns_rebase {w:World} {base base':Nat} {e:TypeId} {size:Nat} {v:Value} {n:Nat} {xs:List Value} (h:w.ownsRow base e size v n xs) (hb:∀ b,v.ownBlock=some b→base'≤b):w.ownsRow base' e size v n xs:=by
 obtain ⟨h1,h2⟩:=h
 refine ⟨h1,?_⟩
 rcases h2 with h2 | ⟨g,cap,cur,rfl,hge,hr⟩
 ·exact .inl h2
 ·exact .inr ⟨g,cap,cur,rfl,hb g rfl,hr⟩
set_option maxHeartbeats 16000000 in
set_option maxRecDepth 100000 in
theorem hcopy_any:FCopyProg:=by
 intro w base G M gb ps ls l N vb hL hI hP hJ
 have hg1:(w.alloc (.cells #[.pointer (some ⟨G,0,none⟩),.pointer (some ⟨gb,0,none⟩)] 80)).heap.size=w.heap.size + 1:=by simp
 have b1:=(Below.refl w.heap.size w).alloc (Nat.le_refl _) (.cells #[.pointer (some ⟨G,0,none⟩),.pointer (some ⟨gb,0,none⟩)] 80)
 have k1:=Blk.new w #[.pointer (some ⟨G,0,none⟩),.pointer (some ⟨gb,0,none⟩)] 80
 generalize hW1:w.alloc (.cells #[.pointer (some ⟨G,0,none⟩),.pointer (some ⟨gb,0,none⟩)] 80)=W1 at *
 have b2:=(Below.refl W1.heap.size W1).alloc (Nat.le_refl _) (.cells #[.pointer none,.pointer none] 80)
 have k2:=Blk.new W1 #[.pointer none,.pointer none] 80
 rw [hg1] at k2
 generalize hW2:W1.alloc (.cells #[.pointer none,.pointer none] 80)=W2 at *
 have HW1:=Lib.hid hW1
 have HW2:=Lib.hid hW2
 have KX:=Lib.hid (k1.below b2 k1.lt)
 have KF:=Lib.hid k2
 have CL:=Lib.hid (pcopy_any (((hL.below b1).below b2).below (Below.refl _ W2).drew))
 have HB:=Lib.hid (((hP.below b1).below b2).below (Below.refl _ W2).drew)
 have B1:=Lib.hid (b1.trans (b2.mono b1.size))
 have JJ:=Lib.hid hJ
 clear hL hI hP hJ b1 b2 k1 k2 hW1 hW2 hg1
 go_enter Tryz.func47,Tryz.ntmps47
 go_upto_region 1 with fail
 rw [HW1.out,HW2.out]
 have e0:=KX.out.cell 0; have e1:=KX.out.cell 1
 have kx:=KX.out.lt
 have kf:=KF.out.lt
 have f0:=KF.out.cell 0; have f1:=KF.out.cell 1
 simp at e0 e1 f0 f1
 go_region_with (first | (go_at_call 76; refine CL.out.mono ?_; rintro e w1 ⟨g1,m1,rfl,r1,n1,n2,b1⟩; have KX1:=Lib.hid (KX.out.drew.below b1 kx); have KF1:=Lib.hid (KF.out.drew.below b1 kf); have R1:=Lib.hid r1; have BB:=Lib.hid b1; have NN:=Lib.hid (And.intro n1 n2); have CB:=Lib.hid (pcopyB_any (HB.out.below b1) JJ.out.n1 (by have:=JJ.out.len; omega)); clear r1 b1 n1 n2; have c0:=KX1.out.cell 0; have c1:=KX1.out.cell 1; have cx:=KX1.out.lt; simp at c0 c1) | (go_at_call 77; refine CB.out.mono ?_; rintro e w2 ⟨g2,vb2,rfl,r2,n1,n2,b2⟩; have KF2:=Lib.hid (KF1.out.below b2 KF1.out.lt); have R2:=Lib.hid r2; have B2:=Lib.hid b2; have NM:=Lib.hid (And.intro n1 n2); clear r2 b2 n1 n2; have z0:=KF2.out.cell 0; have z1:=KF2.out.cell 1; have zx:=KF2.out.lt; have zf:=KF2.out.frozen; simp at z0 z1))
 all_goals
  go_wp2
  refine bodyPost_ret (v:=.agg #[.pointer (some ⟨g1,0,none⟩),.pointer (some ⟨g2,0,none⟩)]) (results_cell_row rfl _ _ (w.heap.size + 1) 80 #[.pointer (some ⟨g1,0,none⟩),.pointer (some ⟨g2,0,none⟩)] (0,0) _ rfl ((KF2.out.set 0 _).set 1 _).out Tryz.underlying80 rfl (by kernel_rfl)) rfl ?_
  have kk:Keep (·=w.heap.size + 1) w2 ((w2.setCell ⟨w.heap.size + 1,0,none⟩ (.pointer (some ⟨g1,0,none⟩))).setCell ⟨w.heap.size + 1,1,none⟩ (.pointer (some ⟨g2,0,none⟩))):=by
   refine Keep.setCell (S:=(·=w.heap.size + 1)) ?_ (p:=⟨w.heap.size + 1,1,none⟩) (.inl rfl) _
   exact Keep.setCell (S:=(·=w.heap.size + 1)) (Keep.refl _ _) (p:=⟨w.heap.size + 1,0,none⟩) (.inl rfl) _
  have s1:=B1.out.size
  have s2:=BB.out.size
  obtain ⟨n1,n2⟩:=NN.out
  obtain ⟨m1,m2⟩:=NM.out
  have hd:W2.drew.heap.size=W2.heap.size:=rfl
  rw [hd] at s2 n1 n2
  have R3:=R2.out.keep kk (by omega) (fun b h=>by have:=m2 b h; omega)
  exact ⟨_,_,_,_,rfl,(R1.out.below B2.out).keep kk (by omega) (by omega),⟨R3.blk,by omega,owns_rebase R3.row (fun b hb=>by have:=m2 b hb; omega)⟩,by omega,by omega,
   (B1.out.trans (((Below.undrew BB.out).trans (B2.out.mono s2)).mono s1)).trans (kk.below (by omega) (fun k hk h=>by omega))⟩
end Go.Proofs.YtngnfdnfpiiclaaGreat
