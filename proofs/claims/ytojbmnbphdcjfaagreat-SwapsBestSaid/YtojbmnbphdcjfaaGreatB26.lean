/-
  Pieces of one proof, without what is not wanted: PFills4, Lives10, SwapLv, PSwap.
-/
import Derived.Test.YtojbmnbphdcjfaaGreatB19
import Derived.Test.YtojbmnbphdcjfaaGreatB20
import Derived.Test.YtojbmnbphdcjfaaGreatB25
set_option linter.unusedSimpArgs false
set_option linter.unusedVariables false
namespace Go.Proofs.YtojbmnbphdcjfaaGreat
open Go.RowKit
theorem PB.ne_map {w:World} {base g G M:Nat} {ps:List Int} {ls:List Ln} {l:List Of} {N:Int} {vl:Value} (h:PB w base g l N vl) (k:LedM w G M ps ls):(¬ g=M∧∀ b,vl.ownBlock=some b→¬ b=M)∧¬ Foot g vl G∧¬ Foot g vl M:=by
 have h1:¬ g=M:=fun e=>k.map.ne_blk h.blk e.symm
 have h2:∀ b,vl.ownBlock=some b→¬ b=M:=fun b hb e=>by
  obtain ⟨_,_,cur,hc⟩:=owns_type h.row hb
  have hB:Blk w b cur _:=hc
  exact k.map.ne_blk hB e.symm
 have h3:¬ G=g:=fun e=>by have:=blk_ne k.blk h.blk (by decide); exact this e
 have h4:¬ vl.ownBlock=some G:=fun e=>owns_ne h.row k.blk (by decide) G e rfl
 exact ⟨⟨h1,h2⟩,fun e=>e.elim h3 h4,fun e=>e.elim (fun q=>h1 q.symm) (fun q=>h2 M q rfl)⟩
theorem Keep.freshRow {S:Nat→Prop} {a w:World} (h:Keep S a w) {g:Nat} (hg:a.heap.size≤g) (cs:Array Value):Keep S a (w.setRow g cs) :=
 have k:=below_keepRow (w:=w) g cs
 ⟨k.os.trans h.os,k.tape.trans h.tape,k.output.trans h.output,Nat.le_trans h.size k.size,fun i hi hs=>(k.block i (Nat.lt_of_lt_of_le hi h.size) (by omega)).trans (h.block i hi hs)⟩
set_option maxHeartbeats 8000000 in
set_option maxRecDepth 100000 in
theorem hdo_void {w:World} {lp bp:Option Addr} {e0 N:Int} {has:Int→Bool} (h:Answers w lp e0 has) (hn:∀ w',Below w.heap.size w w'→Calls Tryz.prog 72 #[.pointer bp] w' fun e w''=>e=.returned (.int .u64 N)∧w'=w'') (he:e0=2∨N=0) (s tk pt n:Int) :
  Calls Tryz.prog 67 #[.agg #[.pointer lp,.pointer bp],.int .u64 s,.int .u8 tk,.int .u8 pt,.int .i64 n] w fun e w'=>e=.returned (.tuple #[noFill,.int .i64 2])∧Below w.heap.size w w':=by
 have b1:=(Below.refl w.heap.size w).alloc (Nat.le_refl _) (.cells #[.pointer lp,.pointer bp] 32)
 have k1:=Blk.new w #[.pointer lp,.pointer bp] 32
 generalize hW1:w.alloc (.cells #[.pointer lp,.pointer bp] 32)=W1 at *
 have b2:=(Below.refl W1.heap.size W1).alloc (Nat.le_refl _) (.cells #[.int .u64 0,.int .u8 0,.int .u8 0,.int .i64 0,.int .i64 0] 80)
 have k2:=Blk.new W1 #[.int .u64 0,.int .u8 0,.int .u8 0,.int .i64 0,.int .i64 0] 80
 generalize hW2:W1.alloc (.cells #[.int .u64 0,.int .u8 0,.int .u8 0,.int .i64 0,.int .i64 0] 80)=W2 at *
 have HW1:=Lib.hid hW1
 have HW2:=Lib.hid hW2
 have hg1:W1.heap.size=w.heap.size + 1:=by rw [← hW1]; simp
 rw [hg1] at k2
 have KX:=Lib.hid (k1.below b2 k1.lt)
 have KF:=Lib.hid k2
 have B2:=Lib.hid (b1.trans (b2.mono b1.size))
 have CM:=Lib.hid (hmade_any (h.below B2.out) (fun w' k=>hn w' (andB B2.out k)))
 rw [show (!(e0==2) && !(N==0))=false by rcases he with rfl | rfl <;> simp] at CM
 clear h hn he b1 k1 b2 k2 hW1 hW2 hg1
 go_enter Tryz.func67,Tryz.ntmps67
 go_upto_region 1 with fail
 rw [HW1.out,HW2.out]
 have e0:=KX.out.cell 0; have e1:=KX.out.cell 1
 have kx:=KX.out.lt
 simp at e0 e1
 go_wp2_with fail
 refine CM.out.mono ?_
 rintro e w1 ⟨rfl,b1⟩
 have KF1:=Lib.hid (KF.out.below b1 KF.out.lt)
 have B1:=Lib.hid (B2.out.trans (b1.mono B2.out.size))
 clear b1 e0 e1 kx KX KF B2 CM
 go_wp2_with (refine wpList_store_whole rfl 80 (.tmp 10) (.tmp 20) rfl (w.heap.size + 1) #[.int .u64 0,.int .u8 0,.int .u8 0,.int .i64 0,.int .i64 0] rfl rfl 80 _ KF1.out.out (by kernel_rfl) rfl (by simp [Value.oneCell']) ?_)
 refine bodyPost_ret (v:=.tuple #[noFill,.int .i64 2]) (results_cell_and rfl _ _ (w.heap.size + 1) 80 #[.int .u64 0,.int .u8 0,.int .u8 0,.int .i64 0,.int .i64 0] _ _ rfl (setRow_heap _ (w.heap.size + 1) _ _ _ (0,0) KF1.out.out) Tryz.underlying80 rfl (by kernel_rfl) rfl) rfl ⟨rfl,below_setRow B1.out (by omega) _⟩
set_option maxHeartbeats 32000000 in
set_option maxRecDepth 100000 in
theorem hdo_any (HR:RouteProg) (HMP:MostProg):FDoProg:=by
 intro w base G M gb ps ls l N vb hL hI hP hJ s tk pt n m1 m2 hs ht hto hn hG
 have b1:=(Below.refl w.heap.size w).alloc (Nat.le_refl _) (.cells #[.pointer (some ⟨G,0,none⟩),.pointer (some ⟨gb,0,none⟩)] 32)
 have k1:=Blk.new w #[.pointer (some ⟨G,0,none⟩),.pointer (some ⟨gb,0,none⟩)] 32
 generalize hW1:w.alloc (.cells #[.pointer (some ⟨G,0,none⟩),.pointer (some ⟨gb,0,none⟩)] 32)=W1 at *
 have b2:=(Below.refl W1.heap.size W1).alloc (Nat.le_refl _) (.cells #[.int .u64 0,.int .u8 0,.int .u8 0,.int .i64 0,.int .i64 0] 80)
 have k2:=Blk.new W1 #[.int .u64 0,.int .u8 0,.int .u8 0,.int .i64 0,.int .i64 0] 80
 generalize hW2:W1.alloc (.cells #[.int .u64 0,.int .u8 0,.int .u8 0,.int .i64 0,.int .i64 0] 80)=W2 at *
 have HW1:=Lib.hid hW1
 have HW2:=Lib.hid hW2
 have hg1:W1.heap.size=w.heap.size + 1:=by rw [← hW1]; simp
 rw [hg1] at k2
 have KX:=Lib.hid (k1.below b2 k1.lt)
 have KF:=Lib.hid k2
 have B2:=Lib.hid (b1.trans (b2.mono b1.size))
 have L0:=Lib.hid ((hL.below b1).below b2)
 have P0:=Lib.hid ((hP.below b1).below b2)
 have HGT:=Lib.hid hg1
 have II:=Lib.hid hI
 have JJ:=Lib.hid hJ
 have HT:=Lib.hid ht
 have HTo:=Lib.hid hto
 have HN:=Lib.hid hn
 have HGo:=Lib.hid hG
 have HRo:=Lib.hid HR
 have hG1:=hL.blk.lt
 have hM1:=hL.map.lt
 have hb1:=hP.blk.lt
 have HGL:=Lib.hid hG1
 have HML:=Lib.hid hM1
 have HBL:=Lib.hid hb1
 have HFO:Hid (∀ b,Foot gb vb b→b<w.heap.size):=Lib.hid (fun b hb=>(hP.lt hb).2)
 have CMd:=Lib.hid (hmade_any (N:=N) (answers_led L0.out II.out) (fun w' k=>pnext_any (P0.out.below k).blk))
 rw [show (!((1:Int)==2) && !(N==0))=true by have:=hJ.n1; simp; omega] at CMd
 have CM:=Lib.hid (fun w' (k:Below W2.heap.size W2 w')=>hmay_any HMP (L0.out.below k) hI (P0.out.below k) hJ s tk pt n 1099511627776 m1 m2 hs ht hto hn ⟨by omega,by omega⟩ hG)
 clear b1 k1 b2 k2 hW1 hW2 hL hI hP hJ hs ht hto hn hG hg1 hG1 hM1 hb1 HR HMP
 go_enter Tryz.func67,Tryz.ntmps67
 go_upto_region 1 with fail
 rw [HW1.out,HW2.out]
 have e0:=KX.out.cell 0; have e1:=KX.out.cell 1
 have kx:=KX.out.lt
 simp at e0 e1
 go_wp2_with fail
 refine CMd.out.mono ?_
 rintro e w0 ⟨rfl,b0⟩
 have CM0:=Lib.hid (CM.out w0 b0)
 have KX0:=Lib.hid (KX.out.below b0 KX.out.lt)
 have KF0:=Lib.hid (KF.out.below b0 KF.out.lt)
 have L1:=Lib.hid (L0.out.below b0)
 have P1:=Lib.hid (P0.out.below b0)
 have B0:=Lib.hid (B2.out.trans (b0.mono B2.out.size))
 clear b0 e0 e1 kx KX KF B2 CMd CM L0 P0
 have e0:=KX0.out.cell 0; have e1:=KX0.out.cell 1
 have kx:=KX0.out.lt
 simp at e0 e1
 by_cases h1:n<1
 ·have q1:decide (n<1)=true:=by simpa using h1
  have NO:Hid (¬ doOk l ps s tk pt n m1 m2):=Lib.hid (fun h=>by have:=h.1; omega)
  clear h1
  go_wp2_with (refine wpList_store_whole rfl 80 (.tmp 10) (.tmp 34) rfl (w.heap.size + 1) #[.int .u64 0,.int .u8 0,.int .u8 0,.int .i64 0,.int .i64 0] rfl rfl 80 _ KF0.out.out (by kernel_rfl) rfl (by simp [Value.oneCell']) ?_)
  refine bodyPost_ret (v:=.tuple #[noFill,.int .i64 1]) (results_cell_and rfl _ _ (w.heap.size + 1) 80 #[.int .u64 0,.int .u8 0,.int .u8 0,.int .i64 0,.int .i64 0] _ _ rfl (setRow_heap _ (w.heap.size + 1) _ _ _ (0,0) KF0.out.out) Tryz.underlying80 rfl (by kernel_rfl) rfl) rfl (.inl ⟨NO.out,rfl,below_setRow B0.out (by omega) _⟩)
 ·have q1:decide (n<1)=false:=by simpa using h1
  go_wp2_with fail
  refine CM0.out.mono ?_
  rintro e w1 ⟨rfl,b1⟩
  have KX1:=Lib.hid (KX0.out.below b1 KX0.out.lt)
  have KF1:=Lib.hid (KF0.out.below b1 KF0.out.lt)
  have L2:=Lib.hid (L1.out.below b1)
  have P2:=Lib.hid (P1.out.below b1)
  have B1:=Lib.hid (B0.out.trans (b1.mono B0.out.size))
  clear b1 e0 e1 kx KX0 KF0 L1 P1 B0 CM0
  have e0:=KX1.out.cell 0; have e1:=KX1.out.cell 1
  have kx:=KX1.out.lt
  simp at e0 e1
  by_cases h2:n≤mayV l ps s tk pt n 1099511627776 m1 m2
  ·have q2:decide (mayV l ps s tk pt n 1099511627776 m1 m2<n)=false:=by simpa using h2
   have hOK:doOk l ps s tk pt n m1 m2:=⟨by omega,h2⟩
   obtain ⟨o,hf,⟨c1,c2,c3,c4⟩,h3,h4,h5⟩:=hOK.facts
   have hGo:=(HGo.out o hf).bd II.out
   have hmem:=(findO_mem hf).1
   have hmay:=JJ.out.may o hmem
   have FT:=Lib.hid (JJ.out.fits hmem)
   obtain ⟨_,_,_,_,_,hmy⟩:=hmay
   obtain ⟨x,hx⟩:∃ x,upN (n * o.nu) o.de=x:=⟨_,rfl⟩
   obtain ⟨u1,u2,u3⟩:=up_fits hmy (g:=min 1099511627776 m2) (by omega) (by omega) (by omega) h5
   rw [hx] at u1 u2 u3
   have CU:=Lib.hid (fun w=>rup_rat n o.nu o.de w HN.out FT.out.nu FT.out.de)
   rw [u1] at CU
   have HX:=Lib.hid hx
   have HOK:=Lib.hid hOK
   have HF:=Lib.hid hf
   have CF:=Lib.hid (pfind_any P2.out JJ.out.n1 s)
   rw [hf] at CF
   dsimp only [foundV,Of.val] at CF
   have hx64:Hid (In64 x):=Lib.hid ⟨by omega,by omega⟩
   clear hOK hGo hmem hmy u1 u2 u3 hx hf h5 h4 h3 c1 c2 c3 c4
   generalize mayV l ps s tk pt n 1099511627776 m1 m2=mm at *
   clear h2
   go_wp2_with fail
   refine CF.out.mono ?_
   rintro e w2 ⟨rfl,b2⟩
   have bo:=(Below.refl w2.heap.size w2).alloc (Nat.le_refl _) (.cells #[.int .u64 o.se,.int .u8 o.ow,.int .u8 o.sl,.int .u8 o.bu,.int .i64 o.lf,.int .i64 o.nu,.int .i64 o.de] 76)
   have KO:=Lib.hid (Blk.new w2 #[.int .u64 o.se,.int .u8 o.ow,.int .u8 o.sl,.int .u8 o.bu,.int .i64 o.lf,.int .i64 o.nu,.int .i64 o.de] 76)
   have b3:=b2.trans (bo.mono b2.size)
   have KX2:=Lib.hid (KX1.out.below b3 KX1.out.lt)
   have KF2:=Lib.hid (KF1.out.below b3 KF1.out.lt)
   have L3:=Lib.hid (L2.out.below b3)
   have P3:=Lib.hid (P2.out.below b3)
   have B3:=Lib.hid (B1.out.trans (b3.mono B1.out.size))
   have HSZ:Hid (w.heap.size≤w2.heap.size):=Lib.hid (B1.out.trans (b2.mono B1.out.size)).size
   clear b2 b3 bo e0 e1 kx KX1 KF1 L2 P2 B1 CF
   have e0:=KX2.out.cell 0; have e1:=KX2.out.cell 1
   have kx:=KX2.out.lt
   simp at e0 e1
   have d0:=KO.out.cell 0; have d1:=KO.out.cell 1; have d2:=KO.out.cell 2; have d3:=KO.out.cell 3; have d4:=KO.out.cell 4; have d5:=KO.out.cell 5; have d6:=KO.out.cell 6
   have kol:=KO.out.lt
   simp at d0 d1 d2 d3 d4 d5 d6
   go_wp2_with fail
   refine (CU.out _).mono ?_
   rintro e w3 ⟨rfl,b3⟩
   have KX3:=Lib.hid (KX2.out.below b3 KX2.out.lt)
   have KO3:=Lib.hid (KO.out.below b3 KO.out.lt)
   have KF3:=Lib.hid (KF2.out.below b3 KF2.out.lt)
   have L4:=Lib.hid (L3.out.below b3)
   have P4:=Lib.hid (P3.out.below b3)
   have B4:=Lib.hid (B3.out.trans (b3.mono B3.out.size))
   clear b3 CU KX2 KO KF2 L3 P3 B3
   clear e0 e1 kx d0 d1 d2 d3 d4 d5 d6 kol
   have e0:=KX3.out.cell 0; have e1:=KX3.out.cell 1
   have kx:=KX3.out.lt
   simp at e0 e1
   have d0:=KO3.out.cell 0; have d1:=KO3.out.cell 1; have d2:=KO3.out.cell 2; have d3:=KO3.out.cell 3; have d4:=KO3.out.cell 4; have d5:=KO3.out.cell 5; have d6:=KO3.out.cell 6
   have kol:=KO3.out.lt
   simp at d0 d1 d2 d3 d4 d5 d6
   by_cases hp:pt=o.ow
   ·have q3:(pt != o.ow)=false:=by simpa using hp
    have HP:=Lib.hid hp
    clear hp
    have BK:Hid (Keep (fun k=>k=G∨k=M∨Foot gb vb k) w w3):=Lib.hid (Keep.of_below B4.out)
    clear B4
    have KXA:=KX3
    have KFA:=KF3
    have KOA:=KO3
    have LA:=L4
    have PA:=P4
    clear KX3 KF3 KO3 L4 P4
    obtain ⟨τ,hτ⟩:=route_ends (roomF_inv II.out o.bu) tk o.ow x
    have HTAU:=Lib.hid hτ
    have CP:=Lib.hid (ppay_any HRo.out LA.out II.out HT.out FT.out.ow FT.out.bu hx64.out hτ)
    clear hτ
    go_wp2_with fail
    refine CP.out.mono ?_
    rintro e w6 ⟨rfl,r6,k6⟩
    have AP:=(PA.out.ne_map LA.out).1
    have KX6:=Lib.hid (KXA.out.keep k6 (by have:=HML.out; omega))
    have KF6:=Lib.hid (KFA.out.keep k6 (by have:=HML.out; omega))
    have P6:=Lib.hid (PA.out.keep k6 AP.1 AP.2)
    have B6:=Lib.hid (BK.out.trans (k6.mono (fun k _ h=>Or.inr (Or.inl h))))
    have L6:=Lib.hid r6
    clear CP r6 k6 AP KXA KFA PA LA BK KOA
    clear e0 e1 kx d0 d1 d2 d3 d4 d5 d6 kol
    have e0:=KX6.out.cell 0; have e1:=KX6.out.cell 1
    have kx:=KX6.out.lt
    simp at e0 e1
    have CK:=Lib.hid (ptake_any P6.out JJ.out s n)
    go_wp2_with fail
    refine CK.out.mono ?_
    rintro e w7 ⟨rfl,vb7,r7,k7,mv7⟩
    have AP:=(P6.out.ne_map L6.out).2
    have hgz:¬ Foot gb vb (w.heap.size + 1):=fun h=>by have:=HFO.out _ h; omega
    have KF7:=Lib.hid (KF6.out.keep k7 hgz)
    have L7:=Lib.hid (L6.out.keep k7 AP.1 AP.2)
    have B7:=Lib.hid (B6.out.trans (k7.mono (fun k _ h=>Or.inr (Or.inr h))))
    have P7:=Lib.hid r7
    have MV:=Lib.hid (mv7.of_le B6.out.size)
    clear CK r7 k7 mv7 AP hgz KX6 KF6 P6 L6 B6
    clear e0 e1 kx
    go_wp2_with (refine wpList_store_whole rfl 80 (.tmp 10) (.tmp 81) rfl (w.heap.size + 1) #[.int .u64 s,.int .u8 tk,.int .u8 pt,.int .i64 n,.int .i64 x] rfl rfl 80 _ KF7.out.out (by kernel_rfl) rfl (by simp [Value.oneCell']) ?_)
    refine bodyPost_ret (v:=.tuple #[.agg #[.int .u64 s,.int .u8 tk,.int .u8 pt,.int .i64 n,.int .i64 x],.int .i64 0]) (results_cell_and rfl _ _ (w.heap.size + 1) 80 #[.int .u64 s,.int .u8 tk,.int .u8 pt,.int .i64 n,.int .i64 x] _ _ rfl (setRow_heap _ (w.heap.size + 1) _ _ _ (0,0) KF7.out.out) Tryz.underlying80 rfl (by kernel_rfl) rfl) rfl (.inr ⟨HOK.out,o,x,_,vb7,HF.out,HX.out.symm,⟨ls,τ,(.inl ⟨HP.out,rfl⟩),HTAU.out,rfl⟩,rfl,?_,?_,B7.out.freshRow (by omega) _,MV.out⟩)
    ·exact L7.out.keep (below_keepRow _ _) (by have:=HGL.out; omega) (by have:=HML.out; omega)
    ·refine P7.out.keep (below_keepRow _ _) (by have:=HBL.out; omega) (fun b hb h=>?_)
     subst h
     exact owns_ne P7.out.row KF7.out (by decide) _ hb rfl
   ·have q3:(pt != o.ow)=true:=by simpa using hp
    have HP:=Lib.hid hp
    clear hp
    obtain ⟨σ,hσ⟩:=route_ends (roomF_inv II.out o.sl) o.ow pt n
    have HSG:=Lib.hid hσ
    have CP:=Lib.hid (ppay_any HRo.out L4.out II.out FT.out.ow HTo.out FT.out.sl HN.out hσ)
    clear hσ
    go_wp2_with fail
    refine CP.out.mono ?_
    rintro e w5 ⟨rfl,r5,k5⟩
    have AP:=(P4.out.ne_map L4.out).1
    have KXA:=Lib.hid (KX3.out.keep k5 (by have:=HML.out; omega))
    have KFA:=Lib.hid (KF3.out.keep k5 (by have:=HML.out; omega))
    have KOA:=Lib.hid (KO3.out.keep k5 (by have:=HML.out; have:=HSZ.out; omega))
    have PA:=Lib.hid (P4.out.keep k5 AP.1 AP.2)
    have BK:Hid (Keep (fun k=>k=G∨k=M∨Foot gb vb k) w w5):=Lib.hid ((Keep.of_below B4.out).trans (k5.mono (fun k _ h=>Or.inr (Or.inl h))))
    have LA:=Lib.hid r5
    have IA:=Lib.hid (payL_inv II.out o.ow pt o.sl n σ)
    clear CP r5 k5 AP KX3 KF3 KO3 P4 L4 B4
    clear e0 e1 kx d0 d1 d2 d3 d4 d5 d6 kol
    have RT:Hid (∃ a,IsRoute (roomF ps ls o.sl) 4398046511104 o.ow pt n a∧payL ps ls o.ow pt o.sl n σ=payL ps ls o.ow pt o.sl n a):=Lib.hid ⟨σ,HSG.out,rfl⟩
    clear HSG
    generalize payL ps ls o.ow pt o.sl n σ=ls4 at *
    have e0:=KXA.out.cell 0; have e1:=KXA.out.cell 1
    have kx:=KXA.out.lt
    simp at e0 e1
    have d0:=KOA.out.cell 0; have d1:=KOA.out.cell 1; have d2:=KOA.out.cell 2; have d3:=KOA.out.cell 3; have d4:=KOA.out.cell 4; have d5:=KOA.out.cell 5; have d6:=KOA.out.cell 6
    have kol:=KOA.out.lt
    simp at d0 d1 d2 d3 d4 d5 d6
    obtain ⟨τ,hτ⟩:=route_ends (roomF_inv IA.out o.bu) tk o.ow x
    have HTAU:=Lib.hid hτ
    have CP:=Lib.hid (ppay_any HRo.out LA.out IA.out HT.out FT.out.ow FT.out.bu hx64.out hτ)
    clear hτ
    go_wp2_with fail
    refine CP.out.mono ?_
    rintro e w6 ⟨rfl,r6,k6⟩
    have AP:=(PA.out.ne_map LA.out).1
    have KX6:=Lib.hid (KXA.out.keep k6 (by have:=HML.out; omega))
    have KF6:=Lib.hid (KFA.out.keep k6 (by have:=HML.out; omega))
    have P6:=Lib.hid (PA.out.keep k6 AP.1 AP.2)
    have B6:=Lib.hid (BK.out.trans (k6.mono (fun k _ h=>Or.inr (Or.inl h))))
    have L6:=Lib.hid r6
    clear CP r6 k6 AP KXA KFA PA LA BK KOA
    clear e0 e1 kx d0 d1 d2 d3 d4 d5 d6 kol
    have e0:=KX6.out.cell 0; have e1:=KX6.out.cell 1
    have kx:=KX6.out.lt
    simp at e0 e1
    have CK:=Lib.hid (ptake_any P6.out JJ.out s n)
    go_wp2_with fail
    refine CK.out.mono ?_
    rintro e w7 ⟨rfl,vb7,r7,k7,mv7⟩
    have AP:=(P6.out.ne_map L6.out).2
    have hgz:¬ Foot gb vb (w.heap.size + 1):=fun h=>by have:=HFO.out _ h; omega
    have KF7:=Lib.hid (KF6.out.keep k7 hgz)
    have L7:=Lib.hid (L6.out.keep k7 AP.1 AP.2)
    have B7:=Lib.hid (B6.out.trans (k7.mono (fun k _ h=>Or.inr (Or.inr h))))
    have P7:=Lib.hid r7
    have MV:=Lib.hid (mv7.of_le B6.out.size)
    clear CK r7 k7 mv7 AP hgz KX6 KF6 P6 L6 B6
    clear e0 e1 kx
    go_wp2_with (refine wpList_store_whole rfl 80 (.tmp 10) (.tmp 81) rfl (w.heap.size + 1) #[.int .u64 s,.int .u8 tk,.int .u8 pt,.int .i64 n,.int .i64 x] rfl rfl 80 _ KF7.out.out (by kernel_rfl) rfl (by simp [Value.oneCell']) ?_)
    refine bodyPost_ret (v:=.tuple #[.agg #[.int .u64 s,.int .u8 tk,.int .u8 pt,.int .i64 n,.int .i64 x],.int .i64 0]) (results_cell_and rfl _ _ (w.heap.size + 1) 80 #[.int .u64 s,.int .u8 tk,.int .u8 pt,.int .i64 n,.int .i64 x] _ _ rfl (setRow_heap _ (w.heap.size + 1) _ _ _ (0,0) KF7.out.out) Tryz.underlying80 rfl (by kernel_rfl) rfl) rfl (.inr ⟨HOK.out,o,x,_,vb7,HF.out,HX.out.symm,⟨ls4,τ,(.inr ⟨HP.out,RT.out⟩),HTAU.out,rfl⟩,rfl,?_,?_,B7.out.freshRow (by omega) _,MV.out⟩)
    ·exact L7.out.keep (below_keepRow _ _) (by have:=HGL.out; omega) (by have:=HML.out; omega)
    ·refine P7.out.keep (below_keepRow _ _) (by have:=HBL.out; omega) (fun b hb h=>?_)
     subst h
     exact owns_ne P7.out.row KF7.out (by decide) _ hb rfl
  ·have q2:decide (mayV l ps s tk pt n 1099511627776 m1 m2<n)=true:=by simpa using h2
   have NO:Hid (¬ doOk l ps s tk pt n m1 m2):=Lib.hid (fun h=>h2 h.2)
   clear h2
   generalize mayV l ps s tk pt n 1099511627776 m1 m2=mm at *
   go_wp2_with (refine wpList_store_whole rfl 80 (.tmp 10) (.tmp 34) rfl (w.heap.size + 1) #[.int .u64 0,.int .u8 0,.int .u8 0,.int .i64 0,.int .i64 0] rfl rfl 80 _ KF1.out.out (by kernel_rfl) rfl (by simp [Value.oneCell']) ?_)
   refine bodyPost_ret (v:=.tuple #[noFill,.int .i64 1]) (results_cell_and rfl _ _ (w.heap.size + 1) 80 #[.int .u64 0,.int .u8 0,.int .u8 0,.int .i64 0,.int .i64 0] _ _ rfl (setRow_heap _ (w.heap.size + 1) _ _ _ (0,0) KF1.out.out) Tryz.underlying80 rfl (by kernel_rfl) rfl) rfl (.inl ⟨NO.out,rfl,below_setRow B1.out (by omega) _⟩)
end Go.Proofs.YtojbmnbphdcjfaaGreat
namespace Go.Proofs.YtojbmnbphdcjfaaGreat
open Go.RowKit
def wayX10 (s t:Int) (σ:RS):Nat→RS
 | 0=>σ
 | k + 1=>wayR s t (wayX10 s t σ k)
theorem route10_by {f0:Int→Int→Int} {B s t want:Int} (h:GInv f0 B):∀ k,(∀ j,j<k→¬ doneR s t (wayX10 s t ⟨f0,want,[]⟩ j))→RInv f0 B s t want k (wayX10 s t ⟨f0,want,[]⟩ k)
 | 0,_=>RInv.start h s t want
 | k + 1,hj=>(route10_by h k (fun j hk=>hj j (by omega))).step (hj k (by omega))
theorem route10_is {f0:Int→Int→Int} {B s t want:Int} (h:GInv f0 B) (k:Nat) (hj:∀ j,j<k→¬ doneR s t (wayX10 s t ⟨f0,want,[]⟩ j)) (hd:doneR s t (wayX10 s t ⟨f0,want,[]⟩ k)):IsRoute f0 B s t want (wayX10 s t ⟨f0,want,[]⟩ k) :=
 ⟨k,route10_by h k hj,hd⟩
def p10:List Int:=[1,2,3]
def l10:List Ln:=[⟨3,2,1,9,0⟩,⟨2,1,2,7,0⟩]
def o10:List Of:=[⟨1,2,1,2,5,3,2⟩]
theorem lv10_s:(∀ j,j<1→¬ doneR 2 3 (wayX10 2 3 ⟨roomF p10 l10 1,mostW,[]⟩ j))∧doneR 2 3 (wayX10 2 3 ⟨roomF p10 l10 1,mostW,[]⟩ 1)∧mostW - (wayX10 2 3 ⟨roomF p10 l10 1,mostW,[]⟩ 1).left=9:=by
 unfold doneR
 decide +kernel
theorem lv10_b:(∀ j,j<1→¬ doneR 1 2 (wayX10 1 2 ⟨roomF p10 l10 2,mostW,[]⟩ j))∧doneR 1 2 (wayX10 1 2 ⟨roomF p10 l10 2,mostW,[]⟩ 1)∧mostW - (wayX10 1 2 ⟨roomF p10 l10 2,mostW,[]⟩ 1).left=7:=by
 unfold doneR
 decide +kernel
end Go.Proofs.YtojbmnbphdcjfaaGreat
namespace Go.Proofs.YtojbmnbphdcjfaaGreat
theorem mostS_by {ps:List Int} {ls:List Ln} (h:LInv ps ls) {c a b v:Int} (k:Nat) (hc:(∀ j,j<k→¬ doneR a b (wayX10 a b ⟨roomF ps ls c,mostW,[]⟩ j))∧doneR a b (wayX10 a b ⟨roomF ps ls c,mostW,[]⟩ k)∧mostW - (wayX10 a b ⟨roomF ps ls c,mostW,[]⟩ k).left=v):mostS ps ls c a b=v:=by
 unfold mostS
 rw [(routeS_is (roomF_inv h c) a b mostW).eq (route10_is (roomF_inv h c) k hc.1 hc.2.1)]
 exact hc.2.2
theorem paidS_by {ps:List Int} {ls ls':List Ln} (h:LInv ps ls) {c a b n:Int} (k:Nat) (hc:(∀ j,j<k→¬ doneR a b (wayX10 a b ⟨roomF ps ls c,n,[]⟩ j))∧doneR a b (wayX10 a b ⟨roomF ps ls c,n,[]⟩ k)∧payL ps ls a b c n (wayX10 a b ⟨roomF ps ls c,n,[]⟩ k)=ls'):paidS ps ls a b c n=ls':=by
 unfold paidS
 rw [(routeS_is (roomF_inv h c) a b n).eq (route10_is (roomF_inv h c) k hc.1 hc.2.1)]
 exact hc.2.2
def lzA:List Ln:=[⟨3,2,1,9,5⟩,⟨2,1,2,7,0⟩]
def lz1:List Ln:=[⟨3,2,1,9,5⟩,⟨2,1,2,7,5⟩]
def lzB:List Ln:=[⟨3,2,1,9,6⟩,⟨2,1,2,7,5⟩]
def lz2:List Ln:=[⟨3,2,1,9,6⟩,⟨2,1,2,7,7⟩]
def ov0:List Of:=[⟨1,2,1,2,5,3,2⟩,⟨2,2,1,2,5,1,1⟩]
def ov1:List Of:=[⟨1,2,1,2,5,3,2⟩]
def ov2:List Of:=[⟨1,2,1,2,4,3,2⟩]
set_option maxRecDepth 100000 in
theorem lw_s0 (h:LInv p10 l10):mostS p10 l10 1 2 3=9∧mostS p10 l10 2 1 2=7:=⟨mostS_by h 1 lv10_s,mostS_by h 1 lv10_b⟩
theorem lw_p0 (h:LInv p10 l10):paidS p10 l10 2 3 1 5=lzA:=paidS_by h 1 (by unfold doneR; decide +kernel)
theorem lw_pA (h:LInv p10 lzA):paidS p10 lzA 1 2 2 5=lz1:=paidS_by h 1 (by unfold doneR; decide +kernel)
theorem lw_s1 (h:LInv p10 lz1):mostS p10 lz1 1 2 3=4∧mostS p10 lz1 2 1 2=2:=⟨mostS_by h 1 (by unfold doneR; decide +kernel),mostS_by h 1 (by unfold doneR; decide +kernel)⟩
theorem lw_p1 (h:LInv p10 lz1):paidS p10 lz1 2 3 1 1=lzB:=paidS_by h 1 (by unfold doneR; decide +kernel)
theorem lw_pB (h:LInv p10 lzB):paidS p10 lzB 1 2 2 2=lz2:=paidS_by h 1 (by unfold doneR; decide +kernel)
theorem lw_s2 (h:LInv p10 lz2):mostS p10 lz2 1 2 3=3∧mostS p10 lz2 2 1 2=0:=⟨mostS_by h 1 (by unfold doneR; decide +kernel),mostS_by h 0 (by unfold doneR; decide +kernel)⟩
theorem lw_f0 (h:LInv p10 l10):filledS p10 l10 ⟨2,2,1,2,5,1,1⟩ 1 3 5 5=lz1∧LInv p10 lz1:=by
 have e0:=lw_p0 h
 have hA:LInv p10 lzA:=by rw [← e0]; exact paidS_inv h _ _ _ _
 have e1:=lw_pA hA
 refine ⟨?_,by rw [← e1]; exact paidS_inv hA _ _ _ _⟩
 unfold filledS
 rw [if_neg (by decide)]
 show paidS p10 (paidS p10 l10 2 3 1 5) 1 2 2 5=lz1
 rw [e0,e1]
theorem lw_f1 (h:LInv p10 lz1):filledS p10 lz1 ⟨1,2,1,2,5,3,2⟩ 1 3 1 2=lz2∧LInv p10 lz2:=by
 have e0:=lw_p1 h
 have hB:LInv p10 lzB:=by rw [← e0]; exact paidS_inv h _ _ _ _
 have e1:=lw_pB hB
 refine ⟨?_,by rw [← e1]; exact paidS_inv hB _ _ _ _⟩
 unfold filledS
 rw [if_neg (by decide)]
 show paidS p10 (paidS p10 lz1 2 3 1 1) 1 2 2 2=lz2
 rw [e0,e1]
def fv1:Fl:=⟨2,5,5⟩
def fv2:Fl:=⟨1,1,2⟩
theorem lw_step0 (h:LInv p10 l10) {n:Int} (hn:n=6∨n=7):swapN p10 1 3 1 2 64 ⟨l10,ov0,[],n⟩=swapN p10 1 3 1 2 63 ⟨lz1,ov1,[fv1],n - 5⟩:=by
 have hm:mayS p10 l10 ov0 1 3 n 1099511627776 2=5:=by
  show mayO ⟨2,2,1,2,5,1,1⟩ p10 1 3 n 1099511627776 (mostS p10 l10 1 2 3) (mostS p10 l10 2 1 2)=5
  rw [(lw_s0 h).1,(lw_s0 h).2]
  rcases hn with rfl | rfl <;> decide +kernel
 have hf:firstS p10 l10 ov0 1 3 n 1099511627776 (bestO ov0 1 2)=some (2,5):=by
  rw [show bestO ov0 1 2=[⟨2,2,1,2,5,1,1⟩,⟨1,2,1,2,5,3,2⟩] by decide +kernel]
  unfold firstS
  rw [hm]
  rfl
 rw [swapN_next (s:=2) (k:=5) (by show ¬ n≤0; omega) hf (by simp)]
 have e:nextS p10 1 3 ⟨l10,ov0,[],n⟩ 2 5=⟨lz1,ov1,[fv1],n - 5⟩:=by
  unfold nextS
  rw [show findO ov0 2=some ⟨2,2,1,2,5,1,1⟩ by decide +kernel]
  simp only []
  rw [show upN (5 * 1) 1=5 by decide +kernel,(lw_f0 h).1,show takeL ov0 2 5=ov1 by decide +kernel]
  rfl
 rw [e]
theorem lw_step1 (h:LInv p10 lz1) {n:Int} (hn:n=1∨n=2):swapN p10 1 3 1 2 63 ⟨lz1,ov1,[fv1],n⟩=swapN p10 1 3 1 2 62 ⟨lz2,ov2,[fv1,fv2],n - 1⟩:=by
 have hm:mayS p10 lz1 ov1 1 3 n 1099511627776 1=1:=by
  show mayO ⟨1,2,1,2,5,3,2⟩ p10 1 3 n 1099511627776 (mostS p10 lz1 1 2 3) (mostS p10 lz1 2 1 2)=1
  rw [(lw_s1 h).1,(lw_s1 h).2]
  rcases hn with rfl | rfl <;> decide +kernel
 have hf:firstS p10 lz1 ov1 1 3 n 1099511627776 (bestO ov1 1 2)=some (1,1):=by
  rw [show bestO ov1 1 2=[⟨1,2,1,2,5,3,2⟩] by decide +kernel]
  unfold firstS
  rw [hm]
  rfl
 rw [swapN_next (s:=1) (k:=1) (by show ¬ n≤0; omega) hf (by simp)]
 have e:nextS p10 1 3 ⟨lz1,ov1,[fv1],n⟩ 1 1=⟨lz2,ov2,[fv1,fv2],n - 1⟩:=by
  unfold nextS
  rw [show findO ov1 1=some ⟨1,2,1,2,5,3,2⟩ by decide +kernel]
  simp only []
  rw [show upN (1 * 3) 2=2 by decide +kernel,(lw_f1 h).1,show takeL ov1 1 1=ov2 by decide +kernel]
  rfl
 rw [e]
theorem lw_none (h:LInv p10 lz2):swapN p10 1 3 1 2 62 ⟨lz2,ov2,[fv1,fv2],1⟩=(11,⟨lz2,ov2,[fv1,fv2],1⟩):=by
 refine swapN_none (by decide) ?_
 have hm:mayS p10 lz2 ov2 1 3 1 1099511627776 1=0:=by
  show mayO ⟨1,2,1,2,4,3,2⟩ p10 1 3 1 1099511627776 (mostS p10 lz2 1 2 3) (mostS p10 lz2 2 1 2)=0
  rw [(lw_s2 h).1,(lw_s2 h).2]
  decide +kernel
 show firstS p10 lz2 ov2 1 3 1 1099511627776 (bestO ov2 1 2)=none
 rw [show bestO ov2 1 2=[⟨1,2,1,2,4,3,2⟩] by decide +kernel]
 unfold firstS
 rw [hm]
 rfl
theorem lw_n6 (h:LInv p10 l10):swapN p10 1 3 1 2 64 ⟨l10,ov0,[],6⟩=(0,⟨lz2,ov2,[fv1,fv2],0⟩):=by
 have h1:=(lw_f0 h).2
 rw [lw_step0 h (.inl rfl),show (6:Int) - 5=1 by decide,lw_step1 h1 (.inl rfl),show (1:Int) - 1=0 by decide,swapN_done (by decide)]
theorem lw_n7 (h:LInv p10 l10):swapN p10 1 3 1 2 64 ⟨l10,ov0,[],7⟩=(11,⟨lz2,ov2,[fv1,fv2],1⟩):=by
 have h1:=(lw_f0 h).2
 have h2:=(lw_f1 h1).2
 rw [lw_step0 h (.inr rfl),show (7:Int) - 5=2 by decide,lw_step1 h1 (.inr rfl),show (2:Int) - 1=1 by decide,lw_none h2]
theorem lw_sw1 (h:LInv p10 l10):swapF p10 l10 ov0 1 3 1 2 6 7=(0,⟨lz2,ov2,[fv1,fv2],0⟩):=by
 unfold swapF
 rw [if_neg (fun q=>q (by unfold swMay; decide)),if_neg (by decide),lw_n6 h]
 rfl
theorem lw_sw2 (h:LInv p10 l10):(swapF p10 l10 ov0 1 3 1 2 6 6).1=12:=by
 unfold swapF
 rw [if_neg (fun q=>q (by unfold swMay; decide)),if_neg (by decide),lw_n6 h]
 rfl
theorem lw_sw3 (h:LInv p10 l10):(swapF p10 l10 ov0 1 3 1 2 7 99).1=11:=by
 unfold swapF
 rw [if_neg (fun q=>q (by unfold swMay; decide)),if_neg (by decide),lw_n7 h]
 rfl
theorem lw_sw4:(swapF p10 l10 ov0 1 3 1 2 0 9).1=1:=by
 unfold swapF
 rw [if_pos (by unfold swMay; decide)]
end Go.Proofs.YtojbmnbphdcjfaaGreat
namespace Go.Proofs.YtojbmnbphdcjfaaGreat
open Go.RowKit
theorem sw_partyMay (x:Int) (w:World):Calls Tryz.prog 136 #[.int .u8 x] w fun e w'=>e=.returned (.bool (decide (1≤x∧x≤16)))∧w=w':=by
 by_cases h1:1≤x
 ·have d1:decide (1≤x)=true:=by simpa using h1
  by_cases h2:x≤16
  ·have d2:decide (x≤16)=true:=by simpa using h2
   rw [decide_eq_true (⟨h1,h2⟩:1≤x∧x≤16)]
   clear h1 h2
   go_enter Tryz.func136,Tryz.ntmps136
   go_wp2_with fail
   go_ret
   exact ⟨rfl,rfl⟩
  ·have d2:decide (x≤16)=false:=by simpa using h2
   rw [decide_eq_false (fun h:1≤x∧x≤16=>h2 h.2)]
   clear h1 h2
   go_enter Tryz.func136,Tryz.ntmps136
   go_wp2_with fail
   go_ret
   exact ⟨rfl,rfl⟩
 ·have d1:decide (1≤x)=false:=by simpa using h1
  rw [decide_eq_false (fun h:1≤x∧x≤16=>h1 h.1)]
  clear h1
  go_enter Tryz.func136,Tryz.ntmps136
  go_wp2_with fail
  go_ret
  exact ⟨rfl,rfl⟩
theorem sw_currencyMay (x:Int) (w:World):Calls Tryz.prog 137 #[.int .u8 x] w fun e w'=>e=.returned (.bool (decide (1≤x∧x≤8)))∧w=w':=by
 by_cases h1:1≤x
 ·have d1:decide (1≤x)=true:=by simpa using h1
  by_cases h2:x≤8
  ·have d2:decide (x≤8)=true:=by simpa using h2
   rw [decide_eq_true (⟨h1,h2⟩:1≤x∧x≤8)]
   clear h1 h2
   go_enter Tryz.func137,Tryz.ntmps137
   go_wp2_with fail
   go_ret
   exact ⟨rfl,rfl⟩
  ·have d2:decide (x≤8)=false:=by simpa using h2
   rw [decide_eq_false (fun h:1≤x∧x≤8=>h2 h.2)]
   clear h1 h2
   go_enter Tryz.func137,Tryz.ntmps137
   go_wp2_with fail
   go_ret
   exact ⟨rfl,rfl⟩
 ·have d1:decide (1≤x)=false:=by simpa using h1
  rw [decide_eq_false (fun h:1≤x∧x≤8=>h1 h.1)]
  clear h1
  go_enter Tryz.func137,Tryz.ntmps137
  go_wp2_with fail
  go_ret
  exact ⟨rfl,rfl⟩
theorem sw_amountMay (x:Int) (w:World):Calls Tryz.prog 138 #[.int .i64 x] w fun e w'=>e=.returned (.bool (decide (1≤x∧x≤1099511627776)))∧w=w':=by
 by_cases h1:1≤x
 ·have d1:decide (1≤x)=true:=by simpa using h1
  by_cases h2:x≤1099511627776
  ·have d2:decide (x≤1099511627776)=true:=by simpa using h2
   rw [decide_eq_true (⟨h1,h2⟩:1≤x∧x≤1099511627776)]
   clear h1 h2
   go_enter Tryz.func138,Tryz.ntmps138
   go_wp2_with fail
   go_ret
   exact ⟨rfl,rfl⟩
  ·have d2:decide (x≤1099511627776)=false:=by simpa using h2
   rw [decide_eq_false (fun h:1≤x∧x≤1099511627776=>h2 h.2)]
   clear h1 h2
   go_enter Tryz.func138,Tryz.ntmps138
   go_wp2_with fail
   go_ret
   exact ⟨rfl,rfl⟩
 ·have d1:decide (1≤x)=false:=by simpa using h1
  rw [decide_eq_false (fun h:1≤x∧x≤1099511627776=>h1 h.1)]
  clear h1
  go_enter Tryz.func138,Tryz.ntmps138
  go_wp2_with fail
  go_ret
  exact ⟨rfl,rfl⟩
set_option maxHeartbeats 8000000 in
set_option maxRecDepth 100000 in
theorem smay_any (fr pt get give n most:Int) (w:World):Calls Tryz.prog 84 #[.agg #[.int .u8 fr,.int .u8 pt,.int .u8 get,.int .u8 give,.int .i64 n,.int .i64 most]] w fun e w'=>e=.returned (.bool (decide (swMay fr pt get give n most)))∧Below w.heap.size w w':=by
 have B:=Lib.hid ((Below.refl w.heap.size w).alloc (Nat.le_refl _) (.cells #[.int .u8 fr,.int .u8 pt,.int .u8 get,.int .u8 give,.int .i64 n,.int .i64 most] 94))
 have K:=Lib.hid (Blk.new w #[.int .u8 fr,.int .u8 pt,.int .u8 get,.int .u8 give,.int .i64 n,.int .i64 most] 94)
 generalize hW:w.alloc (.cells #[.int .u8 fr,.int .u8 pt,.int .u8 get,.int .u8 give,.int .i64 n,.int .i64 most] 94)=W at *
 have HW:=Lib.hid hW
 clear hW
 have c0:=K.out.cell 0; have c1:=K.out.cell 1; have c2:=K.out.cell 2; have c3:=K.out.cell 3; have c4:=K.out.cell 4; have c5:=K.out.cell 5
 have cl:=K.out.lt
 simp at c0 c1 c2 c3 c4 c5
 clear K
 by_cases h0:¬ (1≤fr∧fr≤16)
 ·have NO:decide (swMay fr pt get give n most)=false:=decide_eq_false (by unfold swMay; omega)
  rw [NO]
  have C0:=Lib.hid (sw_partyMay fr W)
  rw [decide_eq_false h0] at C0
  clear NO h0
  go_enter Tryz.func84,Tryz.ntmps84
  go_upto_region 1 with fail
  rw [HW.out]
  go_wp2_with fail
  refine C0.out.mono ?_
  rintro e w' ⟨rfl,rfl⟩
  go_wp2_with fail
  go_ret
  exact ⟨rfl,B.out⟩
 have h0:=Decidable.not_not.1 h0
 have C0:=Lib.hid (sw_partyMay fr W)
 rw [decide_eq_true h0] at C0
 by_cases h1:¬ (1≤pt∧pt≤16)
 ·have NO:decide (swMay fr pt get give n most)=false:=decide_eq_false (by unfold swMay; omega)
  rw [NO]
  have C1:=Lib.hid (sw_partyMay pt W)
  rw [decide_eq_false h1] at C1
  clear NO h0 h1
  go_enter Tryz.func84,Tryz.ntmps84
  go_upto_region 1 with fail
  rw [HW.out]
  go_wp2_with fail
  refine C0.out.mono ?_
  rintro e w' ⟨rfl,rfl⟩
  go_wp2_with fail
  refine C1.out.mono ?_
  rintro e w' ⟨rfl,rfl⟩
  go_wp2_with fail
  go_ret
  exact ⟨rfl,B.out⟩
 have h1:=Decidable.not_not.1 h1
 have C1:=Lib.hid (sw_partyMay pt W)
 rw [decide_eq_true h1] at C1
 by_cases h2:¬ (1≤get∧get≤8)
 ·have NO:decide (swMay fr pt get give n most)=false:=decide_eq_false (by unfold swMay; omega)
  rw [NO]
  have C2:=Lib.hid (sw_currencyMay get W)
  rw [decide_eq_false h2] at C2
  clear NO h0 h1 h2
  go_enter Tryz.func84,Tryz.ntmps84
  go_upto_region 1 with fail
  rw [HW.out]
  go_wp2_with fail
  refine C0.out.mono ?_
  rintro e w' ⟨rfl,rfl⟩
  go_wp2_with fail
  refine C1.out.mono ?_
  rintro e w' ⟨rfl,rfl⟩
  go_wp2_with fail
  refine C2.out.mono ?_
  rintro e w' ⟨rfl,rfl⟩
  go_wp2_with fail
  go_ret
  exact ⟨rfl,B.out⟩
 have h2:=Decidable.not_not.1 h2
 have C2:=Lib.hid (sw_currencyMay get W)
 rw [decide_eq_true h2] at C2
 by_cases h3:¬ (1≤give∧give≤8)
 ·have NO:decide (swMay fr pt get give n most)=false:=decide_eq_false (by unfold swMay; omega)
  rw [NO]
  have C3:=Lib.hid (sw_currencyMay give W)
  rw [decide_eq_false h3] at C3
  clear NO h0 h1 h2 h3
  go_enter Tryz.func84,Tryz.ntmps84
  go_upto_region 1 with fail
  rw [HW.out]
  go_wp2_with fail
  refine C0.out.mono ?_
  rintro e w' ⟨rfl,rfl⟩
  go_wp2_with fail
  refine C1.out.mono ?_
  rintro e w' ⟨rfl,rfl⟩
  go_wp2_with fail
  refine C2.out.mono ?_
  rintro e w' ⟨rfl,rfl⟩
  go_wp2_with fail
  refine C3.out.mono ?_
  rintro e w' ⟨rfl,rfl⟩
  go_wp2_with fail
  go_ret
  exact ⟨rfl,B.out⟩
 have h3:=Decidable.not_not.1 h3
 have C3:=Lib.hid (sw_currencyMay give W)
 rw [decide_eq_true h3] at C3
 by_cases h4:¬ (get≠give)
 ·have NO:decide (swMay fr pt get give n most)=false:=decide_eq_false (by unfold swMay; omega)
  rw [NO]
  have q4:(get != give)=false:=by simpa using h4
  clear NO h0 h1 h2 h3 h4
  go_enter Tryz.func84,Tryz.ntmps84
  go_upto_region 1 with fail
  rw [HW.out]
  go_wp2_with fail
  refine C0.out.mono ?_
  rintro e w' ⟨rfl,rfl⟩
  go_wp2_with fail
  refine C1.out.mono ?_
  rintro e w' ⟨rfl,rfl⟩
  go_wp2_with fail
  refine C2.out.mono ?_
  rintro e w' ⟨rfl,rfl⟩
  go_wp2_with fail
  refine C3.out.mono ?_
  rintro e w' ⟨rfl,rfl⟩
  go_wp2_with fail
  go_ret
  exact ⟨rfl,B.out⟩
 have h4:=Decidable.not_not.1 h4
 have q4:(get != give)=true:=by simpa using h4
 by_cases h5:¬ (1≤n∧n≤1099511627776)
 ·have NO:decide (swMay fr pt get give n most)=false:=decide_eq_false (by unfold swMay; omega)
  rw [NO]
  have C5:=Lib.hid (sw_amountMay n W)
  rw [decide_eq_false h5] at C5
  clear NO h0 h1 h2 h3 h4 h5
  go_enter Tryz.func84,Tryz.ntmps84
  go_upto_region 1 with fail
  rw [HW.out]
  go_wp2_with fail
  refine C0.out.mono ?_
  rintro e w' ⟨rfl,rfl⟩
  go_wp2_with fail
  refine C1.out.mono ?_
  rintro e w' ⟨rfl,rfl⟩
  go_wp2_with fail
  refine C2.out.mono ?_
  rintro e w' ⟨rfl,rfl⟩
  go_wp2_with fail
  refine C3.out.mono ?_
  rintro e w' ⟨rfl,rfl⟩
  go_wp2_with fail
  refine C5.out.mono ?_
  rintro e w' ⟨rfl,rfl⟩
  go_wp2_with fail
  go_ret
  exact ⟨rfl,B.out⟩
 have h5:=Decidable.not_not.1 h5
 have C5:=Lib.hid (sw_amountMay n W)
 rw [decide_eq_true h5] at C5
 by_cases h6:¬ (1≤most∧most≤1099511627776)
 ·have NO:decide (swMay fr pt get give n most)=false:=decide_eq_false (by unfold swMay; omega)
  rw [NO]
  have C6:=Lib.hid (sw_amountMay most W)
  rw [decide_eq_false h6] at C6
  clear NO h0 h1 h2 h3 h4 h5 h6
  go_enter Tryz.func84,Tryz.ntmps84
  go_upto_region 1 with fail
  rw [HW.out]
  go_wp2_with fail
  refine C0.out.mono ?_
  rintro e w' ⟨rfl,rfl⟩
  go_wp2_with fail
  refine C1.out.mono ?_
  rintro e w' ⟨rfl,rfl⟩
  go_wp2_with fail
  refine C2.out.mono ?_
  rintro e w' ⟨rfl,rfl⟩
  go_wp2_with fail
  refine C3.out.mono ?_
  rintro e w' ⟨rfl,rfl⟩
  go_wp2_with fail
  refine C5.out.mono ?_
  rintro e w' ⟨rfl,rfl⟩
  go_wp2_with fail
  refine C6.out.mono ?_
  rintro e w' ⟨rfl,rfl⟩
  go_wp2_with fail
  go_ret
  exact ⟨rfl,B.out⟩
 have h6:=Decidable.not_not.1 h6
 have C6:=Lib.hid (sw_amountMay most W)
 rw [decide_eq_true h6] at C6
 rw [decide_eq_true (show swMay fr pt get give n most from ⟨h0,h1,h2,h3,h4,h5,h6⟩)]
 clear h0 h1 h2 h3 h4 h5 h6
 go_enter Tryz.func84,Tryz.ntmps84
 go_upto_region 1 with fail
 rw [HW.out]
 go_wp2_with fail
 refine C0.out.mono ?_
 rintro e w' ⟨rfl,rfl⟩
 go_wp2_with fail
 refine C1.out.mono ?_
 rintro e w' ⟨rfl,rfl⟩
 go_wp2_with fail
 refine C2.out.mono ?_
 rintro e w' ⟨rfl,rfl⟩
 go_wp2_with fail
 refine C3.out.mono ?_
 rintro e w' ⟨rfl,rfl⟩
 go_wp2_with fail
 refine C5.out.mono ?_
 rintro e w' ⟨rfl,rfl⟩
 go_wp2_with fail
 refine C6.out.mono ?_
 rintro e w' ⟨rfl,rfl⟩
 go_wp2_with fail
 go_ret
 exact ⟨rfl,B.out⟩
set_option maxHeartbeats 8000000 in
theorem smade_of {w:World} {a b:Option Addr} {er:Int} (h:∀ w',Below w.heap.size w w'→Calls Tryz.prog 67 #[.agg #[.pointer a,.pointer b],.int .u64 0,.int .u8 0,.int .u8 0,.int .i64 0] w' fun e w''=>e=.returned (.tuple #[noFill,.int .i64 er])∧Below w'.heap.size w' w'') :
  Calls Tryz.prog 83 #[.agg #[.pointer a,.pointer b]] w fun e w'=>e=.returned (.bool (er != 2))∧Below w.heap.size w w':=by
 have b0:=(Below.refl w.heap.size w).alloc (Nat.le_refl _) (.cells #[.pointer a,.pointer b] 32)
 have K:=Lib.hid (Blk.new w #[.pointer a,.pointer b] 32)
 have B:=Lib.hid b0
 have C:=Lib.hid (h _ b0)
 clear b0 h
 obtain ⟨q,hq⟩:∃ q,(er != 2)=q:=⟨_,rfl⟩
 rw [hq]
 unfold noFill at C
 generalize hW:w.alloc (.cells #[.pointer a,.pointer b] 32)=W at *
 have HW:=Lib.hid hW
 clear hW
 have c0:=K.out.cell 0; have c1:=K.out.cell 1
 have cl:=K.out.lt
 simp at c0 c1
 clear K
 go_enter Tryz.func83,Tryz.ntmps83
 go_upto_region 1 with fail
 rw [HW.out]
 go_wp2_with fail
 refine C.out.mono ?_
 rintro e w1 ⟨rfl,b1⟩
 have B1:=Lib.hid ((B.out.trans (b1.mono B.out.size)).alloc (Nat.le_trans B.out.size b1.size) (.cells #[.int .u64 0,.int .u8 0,.int .u8 0,.int .i64 0,.int .i64 0] 80))
 clear b1 c0 c1 cl C B
 go_wp2_with fail
 go_ret
 exact ⟨rfl,B1.out⟩
theorem smade_any (HD:FDoProg) {w:World} {base G M gb:Nat} {ps:List Int} {ls:List Ln} {l:List Of} {N:Int} {vb:Value} (hL:LedM w G M ps ls) (hI:LInv ps ls) (hP:PB w base gb l N vb) (hJ:BInv l N) :
  Calls Tryz.prog 83 #[.agg #[.pointer (some ⟨G,0,none⟩),.pointer (some ⟨gb,0,none⟩)]] w fun e w'=>e=.returned (.bool true)∧Below w.heap.size w w' :=
 smade_of (er:=1) (fun w' b=>(pdoS_any HD (hL.below b) hI (hP.below b) hJ 0 0 0 0 (by omega) (by unfold In8; omega) (by unfold In8; omega) (by unfold In64; omega)).mono (by
  rintro e w'' (⟨_,h1,h2⟩ | ⟨h,_⟩)
  ·exact ⟨h1,h2⟩
  ·exact absurd h.1 (by omega)))
def wrongS (ps:List Int) (fr pt get give n most:Int):Int:=if ¬ swMay fr pt get give n most then 1 else if fr ∉ ps∨pt ∉ ps then 7 else 0
set_option maxHeartbeats 8000000 in
theorem swrong_void {w:World} {a b:Option Addr} (fr pt get give n most:Int) (h:∀ w',Below w.heap.size w w'→Calls Tryz.prog 83 #[.agg #[.pointer a,.pointer b]] w' fun e w''=>e=.returned (.bool false)∧Below w'.heap.size w' w'') :
  Calls Tryz.prog 39 #[.agg #[.int .u8 fr,.int .u8 pt,.int .u8 get,.int .u8 give,.int .i64 n,.int .i64 most],.agg #[.pointer a,.pointer b]] w fun e w'=>e=.returned (.int .i64 2)∧Below w.heap.size w w':=by
 have b0:=((Below.refl w.heap.size w).alloc (Nat.le_refl _) (.cells #[.int .u8 fr,.int .u8 pt,.int .u8 get,.int .u8 give,.int .i64 n,.int .i64 most] 94))
 have b1:=b0.alloc b0.size (.cells #[.pointer a,.pointer b] 32)
 have K:=Lib.hid (Blk.newAt (w.alloc (.cells #[.int .u8 fr,.int .u8 pt,.int .u8 get,.int .u8 give,.int .i64 n,.int .i64 most] 94)) #[.pointer a,.pointer b] 32 (g:=w.heap.size + 1) (by simp))
 have B:=Lib.hid b1
 have C:=Lib.hid (h _ b1)
 clear b0 b1 h
 generalize hW:(w.alloc (.cells #[.int .u8 fr,.int .u8 pt,.int .u8 get,.int .u8 give,.int .i64 n,.int .i64 most] 94)).alloc (.cells #[.pointer a,.pointer b] 32)=W at *
 have HW:=Lib.hid hW
 clear hW
 have c0:=K.out.cell 0; have c1:=K.out.cell 1
 have cl:=K.out.lt
 simp at c0 c1
 clear K
 go_enter Tryz.func39,Tryz.ntmps39
 go_upto_region 1 with fail
 rw [HW.out]
 go_wp2_with fail
 refine C.out.mono ?_
 rintro e w1 ⟨rfl,b1⟩
 have B1:=Lib.hid (B.out.trans (b1.mono B.out.size))
 clear b1 c0 c1 cl C B
 go_wp2_with fail
 go_ret
 exact ⟨rfl,B1.out⟩
set_option maxHeartbeats 16000000 in
set_option maxRecDepth 100000 in
theorem swrong_any (HD:FDoProg) {w:World} {base G M gb:Nat} {ps:List Int} {ls:List Ln} {l:List Of} {N:Int} {vb:Value} (hL:LedM w G M ps ls) (hI:LInv ps ls) (hP:PB w base gb l N vb) (hJ:BInv l N) (fr pt get give n most:Int) :
  Calls Tryz.prog 39 #[.agg #[.int .u8 fr,.int .u8 pt,.int .u8 get,.int .u8 give,.int .i64 n,.int .i64 most],.agg #[.pointer (some ⟨G,0,none⟩),.pointer (some ⟨gb,0,none⟩)]] w fun e w'=>e=.returned (.int .i64 (wrongS ps fr pt get give n most))∧Below w.heap.size w w':=by
 have b0:=((Below.refl w.heap.size w).alloc (Nat.le_refl _) (.cells #[.int .u8 fr,.int .u8 pt,.int .u8 get,.int .u8 give,.int .i64 n,.int .i64 most] 94))
 have b1:=b0.alloc b0.size (.cells #[.pointer (some ⟨G,0,none⟩),.pointer (some ⟨gb,0,none⟩)] 32)
 have KS:=Lib.hid ((Blk.new w #[.int .u8 fr,.int .u8 pt,.int .u8 get,.int .u8 give,.int .i64 n,.int .i64 most] 94).alloc (.cells #[.pointer (some ⟨G,0,none⟩),.pointer (some ⟨gb,0,none⟩)] 32))
 have KH:=Lib.hid (Blk.newAt (w.alloc (.cells #[.int .u8 fr,.int .u8 pt,.int .u8 get,.int .u8 give,.int .i64 n,.int .i64 most] 94)) #[.pointer (some ⟨G,0,none⟩),.pointer (some ⟨gb,0,none⟩)] 32 (g:=w.heap.size + 1) (by simp))
 have HL:=Lib.hid (hL.below b1)
 have C:=Lib.hid (smade_any HD (hL.below b1) hI (hP.below b1) hJ)
 have B:=Lib.hid b1
 have HB:=Lib.hid hI.bd
 obtain ⟨R,hR⟩:∃ R,wrongS ps fr pt get give n most=R:=⟨_,rfl⟩
 rw [hR]
 have HR:=Lib.hid hR
 clear b0 b1 hL hI hP hJ hR
 generalize hW:(w.alloc (.cells #[.int .u8 fr,.int .u8 pt,.int .u8 get,.int .u8 give,.int .i64 n,.int .i64 most] 94)).alloc (.cells #[.pointer (some ⟨G,0,none⟩),.pointer (some ⟨gb,0,none⟩)] 32)=W at *
 have HW:=Lib.hid hW
 clear hW
 have c0:=KH.out.cell 0; have c1:=KH.out.cell 1
 have cl:=KH.out.lt
 simp at c0 c1
 go_enter Tryz.func39,Tryz.ntmps39
 go_upto_region 1 with fail
 rw [HW.out]
 go_wp2_with fail
 refine C.out.mono ?_
 rintro e w1 ⟨rfl,b1⟩
 have HL1:=Lib.hid (HL.out.below b1)
 have KS1:=Lib.hid (KS.out.below b1 KS.out.lt)
 have KH1:=Lib.hid (KH.out.below b1 KH.out.lt)
 have B1:=Lib.hid (B.out.trans (b1.mono B.out.size))
 clear b1 c0 c1 cl C B HL KS KH
 have s0:=KS1.out.cell 0; have s1:=KS1.out.cell 1; have s2:=KS1.out.cell 2; have s3:=KS1.out.cell 3; have s4:=KS1.out.cell 4; have s5:=KS1.out.cell 5
 have sl:=KS1.out.lt
 simp at s0 s1 s2 s3 s4 s5
 have CM:=Lib.hid (smay_any fr pt get give n most w1)
 by_cases hm:swMay fr pt get give n most
 ·rw [decide_eq_true hm] at CM
  have HMY:=Lib.hid hm
  clear hm
  go_wp2_with fail
  refine CM.out.mono ?_
  rintro e w2 ⟨rfl,b2⟩
  have HL2:=Lib.hid (HL1.out.below b2)
  have KS2:=Lib.hid (KS1.out.below b2 KS1.out.lt)
  have KH2:=Lib.hid (KH1.out.below b2 KH1.out.lt)
  have B2:=Lib.hid (B1.out.trans (b2.mono B1.out.size))
  clear b2 s0 s1 s2 s3 s4 s5 sl CM B1 HL1 KS1 KH1
  have s0:=KS2.out.cell 0; have s1:=KS2.out.cell 1
  have sl:=KS2.out.lt
  have c0:=KH2.out.cell 0; have c1:=KH2.out.cell 1
  have cl:=KH2.out.lt
  simp at s0 s1 c0 c1
  have CF:=Lib.hid (has_any HL2.out.blk HB.out fr)
  have CT:=Lib.hid (has_any HL2.out.blk HB.out pt)
  by_cases hf:fr ∈ ps
  ·rw [decide_eq_true hf] at CF
   by_cases ht:pt ∈ ps
   ·rw [decide_eq_true ht] at CT
    have EE:Hid (R=0):=Lib.hid (by rw [← HR.out]; unfold wrongS; rw [if_neg (fun h=>h HMY.out),if_neg (fun h=>h.elim (fun h=>h hf) (fun h=>h ht))])
    clear hf ht
    go_wp2_with fail
    refine CF.out.mono ?_
    rintro e w3 ⟨rfl,rfl⟩
    go_wp2_with fail
    refine CT.out.mono ?_
    rintro e w3 ⟨rfl,rfl⟩
    go_wp2_with fail
    go_ret
    exact ⟨by rw [EE.out]; rfl,B2.out⟩
   ·rw [decide_eq_false ht] at CT
    have EE:Hid (R=7):=Lib.hid (by rw [← HR.out]; unfold wrongS; rw [if_neg (fun h=>h HMY.out),if_pos (.inr ht)])
    clear hf ht
    go_wp2_with fail
    refine CF.out.mono ?_
    rintro e w3 ⟨rfl,rfl⟩
    go_wp2_with fail
    refine CT.out.mono ?_
    rintro e w3 ⟨rfl,rfl⟩
    go_wp2_with fail
    go_ret
    exact ⟨by rw [EE.out]; rfl,B2.out⟩
  ·rw [decide_eq_false hf] at CF
   have EE:Hid (R=7):=Lib.hid (by rw [← HR.out]; unfold wrongS; rw [if_neg (fun h=>h HMY.out),if_pos (.inl hf)])
   clear hf CT
   go_wp2_with fail
   refine CF.out.mono ?_
   rintro e w3 ⟨rfl,rfl⟩
   go_wp2_with fail
   go_ret
   exact ⟨by rw [EE.out]; rfl,B2.out⟩
 ·rw [decide_eq_false hm] at CM
  have EE:Hid (R=1):=Lib.hid (by rw [← HR.out]; unfold wrongS; rw [if_pos hm])
  clear hm
  go_wp2_with fail
  refine CM.out.mono ?_
  rintro e w2 ⟨rfl,b2⟩
  have B2:=Lib.hid (B1.out.trans (b2.mono B1.out.size))
  clear b2 s0 s1 s2 s3 s4 s5 sl CM B1
  go_wp2_with fail
  go_ret
  exact ⟨by rw [EE.out]; rfl,B2.out⟩
end Go.Proofs.YtojbmnbphdcjfaaGreat
