/-
  Pieces of one proof, without what is not wanted: PSwap2, AppOne, Ref01g, Ref01h, Given11, PSwap3.
-/
import Derived.Test.YtojbmnbphdcjfaaGreatE01
import Derived.Test.YtojbmnbphdcjfaaGreatE02
import Derived.Test.YtojbmnbphdcjfaaGreatE03
import Derived.Test.YtojbmnbphdcjfaaGreatE05
import Derived.Test.YtojbmnbphdcjfaaGreatE06
import Derived.Test.YtojbmnbphdcjfaaGreatE14
import Derived.Test.YtojbmnbphdcjfaaGreatE15
import Derived.Test.YtojbmnbphdcjfaaGreatE20
import Derived.Test.YtojbmnbphdcjfaaGreatE21
import Derived.Test.YtojbmnbphdcjfaaGreatE23
import Derived.Test.YtojbmnbphdcjfaaGreatE24
import Derived.Laws.AppendOwnNone
set_option linter.unusedSimpArgs false
set_option linter.unusedVariables false
namespace Go.Proofs.YtojbmnbphdcjfaaGreat
open Go.RowKit
structure FstW (w:World) (ch cs cw cn base G M gb:Nat) (ps:List Int) (ls:List Ln) (l:List Of) (N:Int) (vb:Value) (fr pt get give n most want x:Int):Prop where
 h:Blk w ch #[.pointer (some ⟨G,0,none⟩),.pointer (some ⟨gb,0,none⟩)] 32
 s:Blk w cs #[.int .u8 fr,.int .u8 pt,.int .u8 get,.int .u8 give,.int .i64 n,.int .i64 most] 94
 wn:Blk w cw #[.int .i64 want] 2
 x:Blk w cn #[.int .i64 x] 2
 led:LedM w G M ps ls
 book:PB w base gb l N vb
 ne:¬ ch=cn∧¬ cs=cn∧¬ cw=cn∧¬ G=cn∧¬ M=cn∧¬ Foot gb vb cn
theorem FstW.keep {w w':World} {ch cs cw cn base G M gb:Nat} {ps:List Int} {ls:List Ln} {l:List Of} {N:Int} {vb:Value} {fr pt get give n most want:Int} {x y:Int} (h:FstW w ch cs cw cn base G M gb ps ls l N vb fr pt get give n most want x) (k:Keep (·=cn) w w') (hx:Blk w' cn #[.int .i64 y] 2):FstW w' ch cs cw cn base G M gb ps ls l N vb fr pt get give n most want y:=by
 obtain ⟨h1,h2,h3,h4,h5,h6⟩:=h.ne
 exact ⟨h.h.keep k h1,h.s.keep k h2,h.wn.keep k h3,hx,h.led.keep k h4 h5,h.book.keep k (fun e=>h6 (.inl e.symm)) (fun b hb e=>h6 (.inr (by rw [← e]; exact hb))),h.ne⟩
theorem FstW.below {w w':World} {ch cs cw cn base G M gb:Nat} {ps:List Int} {ls:List Ln} {l:List Of} {N:Int} {vb:Value} {fr pt get give n most want:Int} {x:Int} (h:FstW w ch cs cw cn base G M gb ps ls l N vb fr pt get give n most want x) (k:Below w.heap.size w w'):FstW w' ch cs cw cn base G M gb ps ls l N vb fr pt get give n most want x :=
 h.keep (Keep.of_below k) (h.x.below k h.x.lt)
set_option maxHeartbeats 8000000 in
theorem first1_any (HMy:FMayProg) (o:Of) {w:World} {ch cs cw cn base G M gb:Nat} {ps:List Int} {ls:List Ln} {l:List Of} {N:Int} {vb:Value} {fr pt get give n most want:Int} {x:Int} (h:FstW w ch cs cw cn base G M gb ps ls l N vb fr pt get give n most want x) (hI:LInv ps ls) (hJ:BInv l N) (ht:In8 fr) (hp:In8 pt) (hw:In64 want) (hs:0≤o.se∧o.se≤18446744073709551615) :
  Calls Tryz.prog 140 #[.agg #[.int .u64 o.se,.int .u8 o.ow,.int .u8 o.sl,.int .u8 o.bu,.int .i64 o.lf,.int .i64 o.nu,.int .i64 o.de],.pointer (some ⟨ch,0,none⟩),.pointer (some ⟨cs,0,none⟩),.pointer (some ⟨cw,0,none⟩),.pointer (some ⟨cn,0,none⟩)] w
   fun e w'=>e=.returned (.bool (decide (0<mayS ps ls l fr pt want 1099511627776 o.se)))∧FstW w' ch cs cw cn base G M gb ps ls l N vb fr pt get give n most want (mayS ps ls l fr pt want 1099511627776 o.se)∧Keep (·=cn) w w':=by
 have b0:=(Below.refl w.heap.size w).alloc (Nat.le_refl _) (.cells #[.int .u64 o.se,.int .u8 o.ow,.int .u8 o.sl,.int .u8 o.bu,.int .i64 o.lf,.int .i64 o.nu,.int .i64 o.de] 76)
 have KO:=Lib.hid (Blk.new w #[.int .u64 o.se,.int .u8 o.ow,.int .u8 o.sl,.int .u8 o.bu,.int .i64 o.lf,.int .i64 o.nu,.int .i64 o.de] 76)
 have HF:=Lib.hid (h.below b0)
 have B0:=Lib.hid b0
 have HLT:=Lib.hid h.x.lt
 have CM:=Lib.hid (pmayS_any HMy (h.led.below b0) hI (h.book.below b0) hJ o.se fr pt want 1099511627776 hs ht hp hw (by unfold In64; decide))
 obtain ⟨k,hk⟩:∃ k,mayS ps ls l fr pt want 1099511627776 o.se=k:=⟨_,rfl⟩
 rw [hk] at CM ⊢
 clear b0 h hI hJ ht hp hw hs hk
 generalize hW:w.alloc (.cells #[.int .u64 o.se,.int .u8 o.ow,.int .u8 o.sl,.int .u8 o.bu,.int .i64 o.lf,.int .i64 o.nu,.int .i64 o.de] 76)=W at *
 have HW:=Lib.hid hW
 clear hW
 have h0:=HF.out.h.cell 0; have h1:=HF.out.h.cell 1
 have hl:=HF.out.h.lt
 have s0:=HF.out.s.cell 0; have s1:=HF.out.s.cell 1
 have sl:=HF.out.s.lt
 have w0:=HF.out.wn.cell 0
 have wl:=HF.out.wn.lt
 have o0:=KO.out.cell 0
 have ol:=KO.out.lt
 have fz:=HF.out.x.frozen 0
 simp at h0 h1 s0 s1 w0 o0
 go_enter Tryz.func140,Tryz.ntmps140
 go_upto_region 1 with fail
 rw [HW.out]
 go_wp2_with fail
 refine CM.out.mono ?_
 rintro e w1 ⟨rfl,b1⟩
 have HF1:=Lib.hid (HF.out.below b1)
 have B1:=Lib.hid (B0.out.trans (b1.mono B0.out.size))
 clear b1 h0 h1 hl s0 s1 sl w0 wl o0 ol fz HF KO CM B0
 have x0:=HF1.out.x.cell 0
 have xl:=HF1.out.x.lt
 have fz:=HF1.out.x.frozen 0
 have hst:=(HF1.out.x.set 0 (.int .i64 k))
 have c0:=hst.cell 0
 simp at x0 c0
 clear hst
 go_wp2_with fail
 go_ret
 have kk:Keep (·=cn) w1 (w1.setCell ⟨cn,0,none⟩ (.int .i64 k)):=Keep.setCell (S:=(·=cn)) (Keep.refl _ _) (p:=⟨cn,0,none⟩) (.inl rfl) _
 refine ⟨rfl,HF1.out.keep kk (HF1.out.x.set 0 _),(Keep.of_below (S:=(·=cn)) B1.out).trans kk⟩
def IxfAt (W:World) (ch cs cw cn base G M gb:Nat) (ps:List Int) (ls:List Ln) (l:List Of) (N:Int) (vb:Value) (fr pt get give n most want:Int) (os:List Of) (i:Value) (wr:World):Prop :=
 ∃ (k:Nat) (x:Int),k≤os.length∧i=.int .i64 k∧FstW wr ch cs cw cn base G M gb ps ls l N vb fr pt get give n most want x∧Keep (·=cn) W wr∧Hid (firstS ps ls l fr pt want 1099511627776 os=firstS ps ls l fr pt want 1099511627776 (os.drop k))
def IxfPost (W:World) (ch cs cw cn base G M gb:Nat) (ps:List Int) (ls:List Ln) (l:List Of) (N:Int) (vb:Value) (fr pt get give n most want:Int) (os:List Of) (e:Ending) (w':World):Prop :=
 (∃ (k:Nat) (x:Int) (hk:k<os.length),e=.returned (.int .i64 k)∧FstW w' ch cs cw cn base G M gb ps ls l N vb fr pt get give n most want x∧Keep (·=cn) W w'∧firstS ps ls l fr pt want 1099511627776 os=some (os[k].se,x)) ∨
 (∃ x:Int,e=.returned (.int .i64 (-1))∧FstW w' ch cs cw cn base G M gb ps ls l N vb fr pt get give n most want x∧Keep (·=cn) W w'∧firstS ps ls l fr pt want 1099511627776 os=none)
set_option maxHeartbeats 16000000 in
set_option maxRecDepth 100000 in
theorem ixfirst_any (HMy:FMayProg) {w:World} {ch cs cw cn base b2 G M gb:Nat} {ps:List Int} {ls:List Ln} {l:List Of} {N:Int} {vb:Value} {fr pt get give n most want:Int} {x:Int} {os:List Of} {v:Value} (h:FstW w ch cs cw cn base G M gb ps ls l N vb fr pt get give n most want x) (hI:LInv ps ls) (hJ:BInv l N) (ht:In8 fr) (hp:In8 pt) (hw:In64 want)
  (hv:Rowed w b2 76 7 v os.length (ofCells os)) (hs:∀ o ∈ os,0≤o.se∧o.se≤18446744073709551615) (hne:∀ b,v.ownBlock=some b→¬ b=cn) :
  Calls Tryz.prog 139 #[v,.func (.func 140) #[] #[.pointer (some ⟨ch,0,none⟩),.pointer (some ⟨cs,0,none⟩),.pointer (some ⟨cw,0,none⟩),.pointer (some ⟨cn,0,none⟩)]] w (IxfPost w ch cs cw cn base G M gb ps ls l N vb fr pt get give n most want os):=by
 obtain ⟨ao,cap,rfl,hc1,hc2,hc3,hc4⟩:=hv.look
 have HC:=Lib.hid hc4
 have HNE:=Lib.hid hne
 have HFw:=Lib.hid h
 have CF:=Lib.hid (fun (o:Of) (w':World) (x:Int) (hs:0≤o.se∧o.se≤18446744073709551615) (q:FstW w' ch cs cw cn base G M gb ps ls l N vb fr pt get give n most want x)=>first1_any HMy o q hI hJ ht hp hw hs)
 have HS:=Lib.hid hs
 unfold maxLen at hc2
 clear hc3 hc4 hv h hI hJ ht hp hw hs hne
 go_enter Tryz.func139,Tryz.ntmps139
 go_wp2_with fail
 go_loopw [5,8] (fun _ i wr=>IxfAt w ch cs cw cn base G M gb ps ls l N vb fr pt get give n most want os i wr) (fun _ i _=>os.length - (intOf i).toNat)
 case atStart=>exact ⟨0,x,Nat.zero_le _,rfl,HFw.out,Keep.refl _ _,Lib.hid rfl⟩
 case round =>
  obtain ⟨k,x,hk,rfl,hF,hK,HE⟩:=hrel
  by_cases hkl:k<os.length
  ·have hki:(k:Int)<(os.length:Int):=by omega
   have hk0:(0:Int)≤(k:Int):=by omega
   obtain ⟨b,rfl,hb1,hb2,hcell,_⟩:=HC.out (by omega)
   have hbn:¬ b=cn:=HNE.out b rfl
   have hbl:b<wr.heap.size:=Nat.lt_of_lt_of_le hb2 hK.size
   obtain ⟨e0,e1,e2,e3,e4,e5,e6⟩:=of_cells (w:=wr) (fun j hj=>by rw [hK.cell (p:=⟨b,j,none⟩) hb2 hbn]; exact hcell j hj) hkl
   obtain ⟨m,hm⟩:∃ m,mayS ps ls l fr pt want 1099511627776 os[k].se=m:=⟨_,rfl⟩
   have C1:=Lib.hid (CF.out os[k] wr x (HS.out _ (List.getElem_mem _)) hF)
   rw [hm] at C1
   have HD:Hid (firstS ps ls l fr pt want 1099511627776 (os.drop k)=if 0<m then some (os[k].se,m) else firstS ps ls l fr pt want 1099511627776 (os.drop (k + 1))):=Lib.hid (by
    rw [List.drop_eq_getElem_cons hkl]
    show (if 0<mayS ps ls l fr pt want 1099511627776 os[k].se then some (os[k].se,mayS ps ls l fr pt want 1099511627776 os[k].se) else _)=_
    rw [hm])
   have HK:=Lib.hid hK
   have HKL:=Lib.hid hkl
   have HSE:Hid (∃ s,os[k].se=s):=Lib.hid ⟨_,rfl⟩
   clear hcell hm hF hK
   clear HSE
   generalize ho:os[k]=o at *
   have HO:=Lib.hid ho
   clear ho hkl
   by_cases hq:0<m
   ·rw [decide_eq_true hq] at C1
    rw [if_pos hq] at HD
    clear hq
    go_wp2_with fail
    refine C1.out.mono ?_
    rintro e w2 ⟨rfl,f2,k2⟩
    have HF2:=Lib.hid f2
    have HK2:=Lib.hid (HK.out.trans k2)
    clear f2 k2 e0 e1 e2 e3 e4 e5 e6 C1
    go_wp2_with fail
    go_ret
    exact .inl ⟨k,m,HKL.out,rfl,HF2.out,HK2.out,by rw [HE.out,HD.out]; exact congrArg (fun z:Of=>some (z.se,m)) HO.out.symm⟩
   ·rw [decide_eq_false hq] at C1
    rw [if_neg hq] at HD
    clear hq
    go_wp2_with fail
    refine C1.out.mono ?_
    rintro e w2 ⟨rfl,f2,k2⟩
    have HF2:=Lib.hid f2
    have HK2:=Lib.hid (HK.out.trans k2)
    clear f2 k2 e0 e1 e2 e3 e4 e5 e6 C1
    go_wp2_with fail
    go_roundw
    case rel=>exact ⟨k + 1,m,by have:=HKL.out; omega,by go_num,HF2.out,HK2.out,Lib.hid (by rw [HE.out,HD.out])⟩
    case measure=>simp [intOf]; omega
  ·have hkn:k=os.length:=by omega
   have HN:Hid (firstS ps ls l fr pt want 1099511627776 (os.drop k)=none):=Lib.hid (by rw [hkn,List.drop_length]; rfl)
   have HFl:=Lib.hid hF
   have HK:=Lib.hid hK
   clear hF hK
   go_wp2_with fail
   go_ret
   exact .inr ⟨x,rfl,HFl.out,HK.out,by rw [HE.out,HN.out]⟩
theorem best_seqs {l:List Of} {N:Int} (hJ:BInv l N) (s b:Int):∀ o ∈ bestO l s b,0≤o.se∧o.se≤18446744073709551615:=fun o ho=>by
 have hm:=hJ.bd o (best_mem hJ ho).1
 have:=hJ.n2
 omega
set_option maxHeartbeats 16000000 in
set_option maxRecDepth 100000 in
theorem pfirst_any (HMy:FMayProg) {w:World} {base G M gb:Nat} {ps:List Int} {ls:List Ln} {l:List Of} {N:Int} {vb:Value} {fr pt get give n most want:Int} (hL:LedM w G M ps ls) (hI:LInv ps ls) (hP:PB w base gb l N vb) (hJ:BInv l N) (ht:In8 fr) (hp:In8 pt) (hg:In8 get) (hv:In8 give) (hw:In64 want) :
  Calls Tryz.prog 85 #[.agg #[.int .u8 fr,.int .u8 pt,.int .u8 get,.int .u8 give,.int .i64 n,.int .i64 most],.agg #[.pointer (some ⟨G,0,none⟩),.pointer (some ⟨gb,0,none⟩)],.int .i64 want] w fun e w'=>e=.returned (.tuple #[.int .u64 ((firstS ps ls l fr pt want 1099511627776 (bestO l get give)).getD (0,0)).1,.int .i64 ((firstS ps ls l fr pt want 1099511627776 (bestO l get give)).getD (0,0)).2])∧Below w.heap.size w w':=by
 have hlt:=And.intro hL.blk.lt (And.intro hL.map.lt (fun b (hb:Foot gb vb b)=>(hP.lt hb).2))
 have b0:=(Below.refl w.heap.size w).alloc (Nat.le_refl _) (.cells #[.int .u8 fr,.int .u8 pt,.int .u8 get,.int .u8 give,.int .i64 n,.int .i64 most] 94)
 have b1:=b0.alloc b0.size (.cells #[.pointer (some ⟨G,0,none⟩),.pointer (some ⟨gb,0,none⟩)] 32)
 have b2:=b1.alloc b1.size (.cells #[.int .i64 want] 2)
 have b3:=b2.alloc b2.size (.cells #[.int .i64 0] 2)
 have hF0:FstW ((((w.alloc (.cells #[.int .u8 fr,.int .u8 pt,.int .u8 get,.int .u8 give,.int .i64 n,.int .i64 most] 94)).alloc (.cells #[.pointer (some ⟨G,0,none⟩),.pointer (some ⟨gb,0,none⟩)] 32)).alloc (.cells #[.int .i64 want] 2)).alloc (.cells #[.int .i64 0] 2)) (w.heap.size + 1) w.heap.size (w.heap.size + 2) (w.heap.size + 3) base G M gb ps ls l N vb fr pt get give n most want 0 :=
  ⟨((Blk.newAt (w.alloc (.cells #[.int .u8 fr,.int .u8 pt,.int .u8 get,.int .u8 give,.int .i64 n,.int .i64 most] 94)) #[.pointer (some ⟨G,0,none⟩),.pointer (some ⟨gb,0,none⟩)] 32 (g:=w.heap.size + 1) (by simp)).alloc _).alloc _,(((Blk.new w #[.int .u8 fr,.int .u8 pt,.int .u8 get,.int .u8 give,.int .i64 n,.int .i64 most] 94).alloc _).alloc _).alloc _,(Blk.newAt ((w.alloc (.cells #[.int .u8 fr,.int .u8 pt,.int .u8 get,.int .u8 give,.int .i64 n,.int .i64 most] 94)).alloc (.cells #[.pointer (some ⟨G,0,none⟩),.pointer (some ⟨gb,0,none⟩)] 32)) #[.int .i64 want] 2 (g:=w.heap.size + 2) (by simp)).alloc _,Blk.newAt _ _ _ (by simp),hL.below b3,hP.below b3,
   by omega,by omega,by omega,by omega,by omega,fun hb=>by have:=hlt.2.2 _ hb; omega⟩
 generalize hW:(((w.alloc (.cells #[.int .u8 fr,.int .u8 pt,.int .u8 get,.int .u8 give,.int .i64 n,.int .i64 most] 94)).alloc (.cells #[.pointer (some ⟨G,0,none⟩),.pointer (some ⟨gb,0,none⟩)] 32)).alloc (.cells #[.int .i64 want] 2)).alloc (.cells #[.int .i64 0] 2)=W at *
 have HW:=Lib.hid hW
 have HF:=Lib.hid hF0
 have B:=Lib.hid b3
 have CB:=Lib.hid (pbest_any (hP.below b3) hJ get give)
 have CI:=Lib.hid (fun (w':World) (x:Int) (b2:Nat) (v:Value) (q:FstW w' (w.heap.size + 1) w.heap.size (w.heap.size + 2) (w.heap.size + 3) base G M gb ps ls l N vb fr pt get give n most want x) (hv:Rowed w' b2 76 7 v (bestO l get give).length (ofCells (bestO l get give))) (hne:∀ b,v.ownBlock=some b→¬ b=w.heap.size + 3) =>
  ixfirst_any HMy q hI hJ ht hp hw hv (best_seqs hJ get give) hne)
 clear hlt b0 b1 b2 b3 hF0 hW hL hI hP hJ ht hp hg hv hw
 obtain ⟨os,hos⟩:∃ os,bestO l get give=os:=⟨_,rfl⟩
 rw [hos] at CB CI ⊢
 clear hos
 obtain ⟨R,hR⟩:∃ R,(firstS ps ls l fr pt want 1099511627776 os).getD (0,0)=R:=⟨_,rfl⟩
 rw [hR]
 have HR:=Lib.hid hR
 clear hR
 have h0:=HF.out.h.cell 0; have h1:=HF.out.h.cell 1
 have hl:=HF.out.h.lt
 have s2:=HF.out.s.cell 2; have s3:=HF.out.s.cell 3
 have sl:=HF.out.s.lt
 simp at h0 h1 s2 s3
 go_enter Tryz.func85,Tryz.ntmps85
 go_upto_region 1 with fail
 rw [HW.out]
 go_wp2_with fail
 refine CB.out.mono ?_
 rintro e w1 ⟨v,rfl,hv,b1⟩
 have HF1:=Lib.hid (HF.out.below b1)
 have HV:=Lib.hid hv
 have B1:=Lib.hid (B.out.trans (b1.mono B.out.size))
 have CX:=Lib.hid (CI.out w1 0 _ v HF1.out hv (fun b hb e=>by have:=(hv.type hb).1; have:=HF.out.x.lt; omega))
 have hmf:∀ (fn:Fn) (first cap:Array Value) (w:World),(Instr.makeFunc fn first cap).run Tryz.prog w=.ok (.func fn first cap) w:=fun _ _ _ _=>rfl
 have VNE:Hid (∀ b,v.ownBlock=some b→¬ b=w.heap.size + 3):=Lib.hid (fun b hb e=>by have:=(hv.type hb).1; have:=HF.out.x.lt; omega)
 clear hv b1 h0 h1 hl s2 s3 sl HF B CB CI
 go_wp2_with fail
 refine CX.out.mono ?_
 rintro e w2 (⟨k,x,hk,rfl,f2,k2,hfs⟩ | ⟨x,rfl,f2,k2,hfs⟩)
 ·have ER:Hid (R=(os[k].se,x)):=Lib.hid (by rw [← HR.out,hfs]; rfl)
  have B2:=Lib.hid (B1.out.trans (k2.below (B:=w.heap.size) B1.out.size (fun j hj e=>by omega)))
  obtain ⟨ao,cap,rfl,hc1,hc2,hc3,hc4⟩:=(HV.out.keep k2 VNE.out).look
  obtain ⟨b,rfl,hb1,hb2,hcell,_⟩:=hc4 (by omega)
  obtain ⟨e0,_⟩:=of_cells (w:=w2) hcell hk
  have HF2:=Lib.hid f2
  have x0:=f2.x.cell 0
  have xl:=f2.x.lt
  have fz:=f2.x.frozen 0
  have hst:=(HF2.out.x.set 0 (.int .i64 x)).cell 0
  simp at x0 hst
  have q0:decide ((k:Int)<0)=false:=by simp
  have q1:(0:Int)≤(k:Int)∧(k:Int)<(os.length:Int):=by omega
  obtain ⟨s,hs⟩:∃ s,os[k].se=s:=⟨_,rfl⟩
  rw [hs] at e0 ER
  clear hs f2 k2 hfs hcell hc3 hc4 HV CX
  unfold maxLen at hc2
  go_wp2_with fail
  go_region
  go_wp2_with fail
  refine bodyPost_ret (v:=.tuple #[.int .u64 s,.int .i64 x]) (by simp [results,Tryz.results85,go_sem,hst]) rfl ?_
  exact ⟨by rw [ER.out],(B2.out.setCell (by show w.heap.size≤w.heap.size + 3; omega) _).drew⟩
 ·have ER:Hid (R=(0,0)):=Lib.hid (by rw [← HR.out,hfs]; rfl)
  have B2:=Lib.hid (B1.out.trans (k2.below (B:=w.heap.size) B1.out.size (fun j hj e=>by omega)))
  have x0:=f2.x.cell 0
  have xl:=f2.x.lt
  have fz:=f2.x.frozen 0
  have hst:=(f2.x.set 0 (.int .i64 0)).cell 0
  simp at x0 hst
  clear f2 k2 hfs HV CX
  go_wp2_with fail
  refine bodyPost_ret (v:=.tuple #[.int .u64 0,.int .i64 0]) (by simp [results,Tryz.results85,go_sem,hst]) rfl ?_
  exact ⟨by rw [ER.out],B2.out.setCell (by show w.heap.size≤w.heap.size + 3; omega) _⟩
end Go.Proofs.YtojbmnbphdcjfaaGreat
namespace Go.Proofs.YtojbmnbphdcjfaaGreat
open Go.RowKit
theorem wpList_append_one {P:Program} (w:World) {ops:Array Oper} {rest:List Oper} {o:Oper} {a:Act} {Q:Exit→Act→World→Prop} (hgd:o.guard=none) (s x:Operand) (t e:TypeId)
  (ho:o.op=.call { callee:=.builtin .append,args:=#[s,x],argTypes:=#[t,t] }) {z:Value} {sz by':Nat} (ht:P.underlying t=some (.slice e)) (hinf:(P.info? e).map (fun i=>(i.zero,i.size,i.bytes))=some (some z,sz,by')) (hzs:z.cells.size=sz) (h0:0<sz) (hby:by'≤1000)
  (base:Nat) (v:Value) (n:Nat) (xs:List Value) (hs:a.eval s=v) (hown:w.ownsRow base e sz v n xs) (g c:Nat) (vs:List Value) (hvs:vs.length=sz) (hx:a.eval x=.slice (some ⟨g,0,none⟩) 1 c) (hy:Blk w g vs.toArray e) (h1:∀ u ∈ vs,u.oneCell'=true) (hlen:n≤100000) (hbase:base≤w.heap.size)
  (h:∀ v' w',w'.ownsRow base e sz v' (n + 1) (xs++vs)→w.grownBy w' v.ownBlock→wpList P ops Q rest (a.put o.dst v') w'):wpList P ops Q (o::rest) a w:=by
 obtain ⟨i0,hi,hz0,hz1,hz2⟩:=info_parts hinf
 refine wpList_append_own w hgd s x t ho base e i0 z sz by' ht hi hz0 hz1 hz2 hzs h0 v n xs hs hown ⟨g,0,none⟩ 1 c vs hx (by rw [hvs]; omega) ?_ h1 (by unfold maxLen; omega) ?_ hbase ?_
 ·intro j u hj
  rw [Go.WideShapes.add_plain,Nat.zero_add,hy.cell j]
  simpa using hj
 ·refine Nat.le_trans (Nat.mul_le_mul_left _ hby) ?_
  omega
 ·intro v' w' h2 h3 _
  exact h v' w' h2 h3
theorem below_ag {B:Nat} {w w1 w2:World} {o:Obj} {row:Option Nat} (h:Below B w w1) (hB:B≤w1.heap.size) (hg:(w1.alloc o).grownBy w2 row) (hr:∀ k,row=some k→B≤k):Below B w w2 :=
 (h.alloc hB o).grown hg (by simp; omega) hr
end Go.Proofs.YtojbmnbphdcjfaaGreat
namespace Go.Proofs.YtojbmnbphdcjfaaGreat
open Go.RowKit
def signed (neg:Bool) (x:Nat):Int:=if neg then -(x:Int) else x
end Go.Proofs.YtojbmnbphdcjfaaGreat
namespace Go.Proofs.YtojbmnbphdcjfaaGreat
open Go.RowKit
def Lst (k:IntKind) (w:World) (a:Option Addr) (cap:Nat) (zs:List Int):Prop :=
 (zs=[]∧(a=none→cap=0))∨∃ b off,a=some ⟨b,off,none⟩∧zs≠[]∧b<w.heap.size∧∀ i (h:i<zs.length),w.cell? ⟨b,off + i,none⟩=some (.int k zs[i])
end Go.Proofs.YtojbmnbphdcjfaaGreat
namespace Go.Proofs.YtojbmnbphdcjfaaGreat
open Go.RowKit
def Fl.vals (tk pt:Int) (f:Fl):List Value:=[.int .u64 f.se,.int .u8 tk,.int .u8 pt,.int .i64 f.got,.int .i64 f.gi]
def flCells (tk pt:Int) (fs:List Fl):List Value:=fs.flatMap (Fl.vals tk pt)
theorem flCells_len (tk pt:Int) (fs:List Fl):(flCells tk pt fs).length=fs.length * 5:=flat_len _ 5 (fun _=>rfl) fs
theorem flCells_get (tk pt:Int) (fs:List Fl) (i j:Nat) (hj:j<5) (h:i<fs.length):(flCells tk pt fs)[i * 5 + j]? = (fs[i].vals tk pt)[j]? := by
 unfold flCells
 rw [flat_get _ 5 (fun _=>rfl) fs i j hj,List.getElem?_eq_getElem h]
 rfl
theorem flCells_next (tk pt:Int) (fs:List Fl) (f:Fl):flCells tk pt (fs++[f])=flCells tk pt fs++f.vals tk pt:=by
 unfold flCells
 rw [List.flatMap_append]
 simp
theorem own_cell5 {w:World} {base n cap:Nat} {ao:Option Addr} {e:TypeId} {tk pt:Int} {fs:List Fl} (h:w.ownsRow base e 5 (.slice ao n cap) n (flCells tk pt fs)) {k:Nat} (hk:k<fs.length) :
  ∃ b,ao=some ⟨b,0,none⟩∧∀ w',Below w.heap.size w w'→b<w'.heap.size∧∀ j,j<5→w'.cell? ⟨b,k * 5 + j,none⟩=(fs[k].vals tk pt)[j]? := by
 obtain ⟨hl,h2⟩:=h
 have hz:=flCells_len tk pt fs
 rcases h2 with ⟨h2,h3⟩ | ⟨g,cap',cur,hv,hge,hg,hnc,hcm,hsz,htk⟩
 ·have:=hl
  rw [h3] at this
  omega
 ·cases hv
  have hB:Blk w g cur e:=hg
  refine ⟨g,rfl,fun w' k'=>⟨(hB.below k' hB.lt).lt,fun j hj=>?_⟩⟩
  rw [(hB.below k' hB.lt).cell]
  have e:=flCells_get tk pt fs k j hj hk
  rw [← htk,List.getElem?_take_of_lt (by omega)] at e
  rw [Array.getElem?_toList] at e
  exact e
theorem info_i64:(Tryz.prog.info? 2).map (fun i=>(i.zero,i.size,i.bytes))=some (some (.int .i64 0),1,8):=by kernel_rfl
theorem own_lst {w:World} {base n cap:Nat} {ao:Option Addr} {e:TypeId} {zs:List Int} (h:w.ownsRow base e 1 (.slice ao n cap) n (zs.map (.int .i64))) (hn:n=zs.length):Lst .i64 w ao cap zs:=by
 obtain ⟨hl,h2⟩:=h
 rcases h2 with ⟨h2,h3⟩ | ⟨g,cap',cur,hv,hge,hg,hnc,hcm,hsz,htk⟩
 ·cases h2
  refine .inl ⟨List.eq_nil_of_length_eq_zero (by omega),fun _=>rfl⟩
 ·cases hv
  have hB:Blk w g cur e:=hg
  by_cases hz:zs=[]
  ·exact .inl ⟨hz,fun h=>by cases h⟩
  ·refine .inr ⟨g,0,rfl,hz,hB.lt,fun i hi=>?_⟩
   rw [Nat.zero_add,hB.cell]
   have e:(zs.map (Value.int .i64))[i]? = some (.int .i64 zs[i]):=by rw [List.getElem?_map,List.getElem?_eq_getElem hi]; rfl
   rw [← htk,List.getElem?_take_of_lt (by omega),Array.getElem?_toList] at e
   exact e
end Go.Proofs.YtojbmnbphdcjfaaGreat
namespace Go.Proofs.YtojbmnbphdcjfaaGreat
open Go.RowKit
theorem clipFl_any {w:World} {base:Nat} {v:Value} {n:Nat} {xs:List Value} (h:w.ownsRow base 80 5 v n xs) :
  Calls Tryz.prog 86 #[v] w (ClipPost w base 80 5 n v xs):=by
 rcases h.2 with ⟨rfl,h0⟩ | ⟨g,cap,cur,rfl,hbase,hb,h1,h2,h3,h4⟩
 ·subst h0
  have hr:=run_slice_clip_none (P:=Tryz.prog) w 43 80 5 Tryz.underlying43 (Tryz.sizeOf80 w)
  have hx:=h.1
  have hx2:=Lib.hid hx
  clear h hx
  go_enter Tryz.func86,Tryz.ntmps86
  go_wp2
  refine bodyPost_ret (v:=.slice none 0 0) (by simp [results,Tryz.results86,go_sem]) rfl ?_
  exact ⟨_,rfl,⟨hx2.out,.inl ⟨rfl,rfl⟩⟩,rfl,rfl⟩
 ·have hr:=run_slice_clip (P:=Tryz.prog) w 43 80 5 Tryz.underlying43 (Tryz.sizeOf80 w) g n cap h1
  have HR:=Lib.hid (show Rowed w base 80 5 (.slice (some ⟨g,0,none⟩) n n) n xs from ⟨h.1,.inr ⟨g,cur,rfl,hbase,hb,by omega,by omega,h4⟩⟩)
  clear h hb h4 h3
  unfold maxLen at h2
  go_enter Tryz.func86,Tryz.ntmps86
  go_wp2
  refine bodyPost_ret (v:=.slice (some ⟨g,0,none⟩) n n) (by simp [results,Tryz.results86,go_sem]) rfl ?_
  exact ⟨_,rfl,HR.out,rfl,rfl⟩
def SumNil (w:World) (i:Value) (wr:World):Prop:=i=.int .i64 0∧Below w.heap.size w wr∧Blk wr w.heap.size #[.int .u64 0,.int .u64 0] 155
set_option maxHeartbeats 1000000 in
theorem psum_nil (a:Option Addr) (cap:Nat) (w:World):Calls Tryz.prog 46 #[.slice a 0 cap] w fun e w'=>e=.returned (ans 0)∧Below w.heap.size w w':=by
 go_enter Tryz.func46,Tryz.ntmps46
 go_wp2
 go_loopw [9] (SumNil w) (fun _ _=>0)
 case atStart=>exact ⟨rfl,(Below.refl _ _).alloc (Nat.le_refl _) _,Blk.new _ _ _⟩
 case round =>
  obtain ⟨rfl,hb,hblk⟩:=hrel
  have hg:=hblk.lt
  have hc0:wr.cell? ⟨w.heap.size,0,none⟩=some (.int .u64 0):=hblk.cell 0
  have hc1:wr.cell? ⟨w.heap.size,1,none⟩=some (.int .u64 0):=hblk.cell 1
  have hn:=narrow_any 0 wr (by omega) (by omega)
  simp only [wideV_eq,show hi64 0=0 by decide,show lo64 0=0 by decide] at hn
  go_wp2_with fail
  refine hn.mono ?_
  rintro e w4 ⟨rfl,b4⟩
  unfold ans
  go_wp2
  go_ret2
  exact ⟨rfl,hb.trans (b4.mono (Nat.le_of_lt hg))⟩
theorem psum_lst (a:Option Addr) (cap:Nat) (zs:List Int) (w:World) (hz:∀ z ∈ zs,In64 z) (hl:zs.length≤140737488355328) (ha:Lst .i64 w a cap zs) :
  Calls Tryz.prog 46 #[.slice a zs.length cap] w fun e w'=>e=.returned (ans zs.sum)∧Below w.heap.size w w':=by
 rcases ha with ⟨rfl,_⟩ | ⟨b,off,rfl,_,hlt,hc⟩
 ·exact psum_nil a cap w
 ·exact sum_any b off cap zs w hz hl hlt hc
def FillsIn (w:World) (ao:Option Addr) (tk pt:Int) (fs:List Fl):Prop :=
 ∀ k (h:k<fs.length),∃ b,ao=some ⟨b,0,none⟩∧∀ w',Below w.heap.size w w'→b<w'.heap.size∧∀ j,j<5→w'.cell? ⟨b,k * 5 + j,none⟩=(fs[k].vals tk pt)[j]?
def PGvAt (W:World) (fs:List Fl) (v i:Value) (wr:World):Prop :=
 ∃ k:Nat,k≤fs.length∧i=.int .i64 k∧wr.ownsRow W.heap.size 2 1 v k (((fs.take k).map Fl.gi).map (.int .i64))∧Below W.heap.size W wr
set_option maxHeartbeats 8000000 in
set_option maxRecDepth 100000 in
theorem pgiven_in {w:World} {ao:Option Addr} {cap:Nat} {tk pt:Int} {fs:List Fl} (hv:FillsIn w ao tk pt fs) (h64:∀ f ∈ fs,In64 f.gi) (hlen:fs.length≤1000) (hc1:fs.length≤cap) (hc2:cap≤maxLen) :
  Calls Tryz.prog 14 #[.slice ao fs.length cap] w fun e w'=>e=.returned (.int .i64 (okN (fs.map Fl.gi).sum))∧Below w.heap.size w w':=by
 have HV:=Lib.hid hv
 have H64:=Lib.hid h64
 unfold maxLen at hc2
 clear hv h64
 go_enter Tryz.func14,Tryz.ntmps14
 go_wp2_with fail
 go_loopw [3,5,10] (fun v _ i wr=>PGvAt w fs v i wr) (fun _ _ i _=>fs.length - (intOf i).toNat)
 case atStart=>exact ⟨0,by omega,rfl,World.ownsRow_nil w _ _ _,Below.refl _ _⟩
 case round =>
  obtain ⟨k,hk,rfl,ho,hb⟩:=hrel
  by_cases hkl:k<fs.length
  ·have hki:(k:Int)<(fs.length:Int):=by omega
   have hk0:(0:Int)≤(k:Int):=by omega
   have q0:decide ((k:Int)<(fs.length:Int))=true:=by simpa using hkl
   obtain ⟨b,hbb,hc⟩:=HV.out k hkl
   subst hbb
   obtain ⟨hbl,hcj⟩:=hc wr hb
   have c0:=hcj 0 (by omega); have c1:=hcj 1 (by omega); have c2:=hcj 2 (by omega); have c3:=hcj 3 (by omega); have c4:=hcj 4 (by omega)
   have HT:Hid (((fs.take (k + 1)).map Fl.gi).map (Value.int .i64)=((fs.take k).map Fl.gi).map (.int .i64)++[.int .i64 fs[k].gi]):=Lib.hid (by
    rw [List.take_succ_eq_append_getElem hkl,List.map_append,List.map_append]; rfl)
   simp only [Fl.vals,List.getElem?_cons_zero,List.getElem?_cons_succ] at c0 c1 c2 c3 c4
   have OO:=Lib.hid ho
   have BB:=Lib.hid hb
   have HK:=Lib.hid hkl
   clear ho hb hc hcj
   generalize fs[k]=f at *
   obtain ⟨se,got,x⟩:=f
   dsimp only at c0 c1 c2 c3 c4 HT
   clear hkl
   rw [Nat.add_zero] at c0
   go_wp2_with (at_builtin; refine wpList_append_one _ rfl (.tmp 14) (.tmp 17) 105 2 rfl Tryz.underlying105 info_i64 rfl (by decide) (by decide) w.heap.size _ k _ rfl ((OO.out.alloc _).alloc _) (wr.heap.size + 1) 1 [.int .i64 x] rfl rfl (Blk.newAt _ _ _ (by simp)) (by simp [Value.oneCell']) (by omega) (by have:=BB.out.size; simp; omega) ?_)
   intro v2 w2 ho2 hg2
   have HO2:=Lib.hid (show w2.ownsRow w.heap.size 2 1 v2 (k + 1) (((fs.take (k + 1)).map Fl.gi).map (.int .i64)) from by rw [HT.out]; simpa [List.map_take] using ho2)
   have BB2:=Lib.hid (below_ag (BB.out.alloc BB.out.size _) (by have:=BB.out.size; simp; omega) hg2 (fun b hb=>(owns_type OO.out hb).1))
   clear ho2 hg2
   go_wp2_with fail
   exact ⟨⟨k + 1,by have:=HK.out; omega,by go_num,HO2.out,BB2.out⟩,by simp [intOf]; have:=HK.out; omega⟩
  ·have hkn:k=fs.length:=by omega
   subst hkn
   have q0:decide (((fs.length:Nat):Int)<(fs.length:Int))=false:=by simp
   rw [List.take_length] at ho
   obtain ⟨a2,cap2,rfl,d1,d2,_,_⟩:=owns_open ho
   have CS:=Lib.hid (psum_lst a2 cap2 (fs.map Fl.gi) wr (by intro z hz; obtain ⟨f,hf,rfl⟩:=List.mem_map.1 hz; exact H64.out f hf) (by simp; omega) (own_lst ho (by simp)))
   rw [List.length_map] at CS
   unfold ans at CS
   have BB:=Lib.hid hb
   clear hb ho
   go_wp2_with fail
   refine CS.out.mono ?_
   rintro e w2 ⟨rfl,b2⟩
   have B2:=Lib.hid (BB.out.trans (b2.mono BB.out.size))
   clear b2
   go_wp2_with fail
   go_ret
   exact ⟨rfl,B2.out⟩
theorem pgiven_any {w:World} {base:Nat} {tk pt:Int} {fs:List Fl} {v:Value} (hv:w.ownsRow base 80 5 v fs.length (flCells tk pt fs)) (h64:∀ f ∈ fs,In64 f.gi) (hlen:fs.length≤1000) :
  Calls Tryz.prog 14 #[v] w fun e w'=>e=.returned (.int .i64 (okN (fs.map Fl.gi).sum))∧Below w.heap.size w w':=by
 obtain ⟨ao,cap,rfl,hc1,hc2,hc3,hc4⟩:=owns_open hv
 exact pgiven_in (fun k hk=>own_cell5 hv hk) h64 hlen hc1 hc2
theorem rowed_fills {w:World} {base:Nat} {ao:Option Addr} {n cap:Nat} {e:TypeId} {tk pt:Int} {fs:List Fl} (h:Rowed w base e 5 (.slice ao n cap) n (flCells tk pt fs)):FillsIn w ao tk pt fs:=by
 intro k hk
 have hz:=flCells_len tk pt fs
 obtain ⟨ao',cap',hv,_,_,hl,h4⟩:=h.look
 cases hv
 obtain ⟨b,rfl,_,hb,hc,_⟩:=h4 (by omega)
 refine ⟨b,rfl,fun w' q=>⟨Nat.lt_of_lt_of_le hb q.size,fun j hj=>?_⟩⟩
 rw [q.cell (p:=⟨b,k * 5 + j,none⟩) hb,hc _ (by omega),flCells_get tk pt fs k j hj hk]
end Go.Proofs.YtojbmnbphdcjfaaGreat
