/-
  Pieces of one proof, without what is not wanted: NettingsLeast, BelowD, NEnds.
-/
import Derived.Test.YtlbjjkbppbmihaaGreatL01
import Derived.Test.YtlbjjkbppbmihaaGreatL04
import Derived.Test.YtlbjjkbppbmihaaGreatL07
import Derived.Test.YtlbjjkbppbmihaaGreatL12
import Derived.Test.YtlbjjkbppbmihaaGreatL14
import Derived.Test.YtlbjjkbppbmihaaGreatL15
import Derived.Test.YtlbjjkbppbmihaaGreatL16
import Derived.Sort.Grow
import Derived.Laws.EntriesVeiled
import Derived.Shelf.Abstract
set_option linter.unusedSimpArgs false
set_option linter.unusedVariables false
namespace Go.Proofs.YtlbjjkbppbmihaaGreat
open Go.RowKit
def NLeastC (w:World) (G M G2 M2 X:Nat) (ps:List Int) (ls lt:List Ln) (cu q:Int) (c:Value) (wr:World):Prop :=
 ∃ d:Int,1≤d∧d≤9∧c=.int .u8 d∧LedM wr G M ps lt∧LedM wr G2 M2 ps ls∧Blk wr X #[.int .u8 cu,.int .i64 q] 35∧Below w.heap.size w wr
def NLeastP (w:World) (G M G2 M2 X:Nat) (ps:List Int) (ls lt:List Ln) (cu q:Int) (c:Value) (wr:World):Prop :=
 ∃ d:Int,1≤d∧d≤17∧c=.int .u8 d∧LedM wr G M ps lt∧LedM wr G2 M2 ps ls∧Blk wr X #[.int .u8 cu,.int .i64 q] 35∧Below w.heap.size w wr
set_option maxHeartbeats 32000000 in
set_option maxRecDepth 100000 in
theorem nleast_walk (HD:DebtsProg) (HN:NetProg) (HL:Lives13) (a:Option Addr) (len cap:Nat) (xs:List Ac) (cu q:Int) (w:World) (h0:ActsIn w a len cap xs) (hc:In8 cu) (hq:In64 q) :
  Calls Tryz.prog 4 #[.slice a len cap,.agg #[.int .u8 cu,.int .i64 q]] w fun e w'=>e=.returned (.bool true)∧Below w.heap.size w w':=by
 have HA:=Lib.hid h0
 have hcap:=h0.2.2.1
 have hmax:=h0.2.2.2.1
 unfold maxLen at hmax
 have HCu:=Lib.hid hc
 have HQ:=Lib.hid hq
 have HDo:=Lib.hid HD
 have HNo:=Lib.hid HN
 have HLo:=Lib.hid HL
 clear h0 hc hq HD HN HL
 by_cases hle:¬ len≤120
 ·go_enter Tryz.func4,Tryz.ntmps4
  go_wp2_with fail
  have B0:=Lib.hid ((Below.refl w.heap.size w).alloc (Nat.le_refl _) (.cells #[.int .u8 cu,.int .i64 q] 35))
  refine (HLo.out _).mono ?_
  rintro e w1 ⟨rfl,b1⟩
  have B1:=Lib.hid (B0.out.trans (b1.mono B0.out.size))
  clear b1
  go_wp2_with fail
  go_ret
  exact ⟨rfl,B1.out⟩
 have hle:=Decidable.not_not.1 hle
 go_enter Tryz.func4,Tryz.ntmps4
 go_wp2_with fail
 have X0:=Lib.hid (Blk.new w #[.int .u8 cu,.int .i64 q] 35)
 have B0:=Lib.hid ((Below.refl w.heap.size w).alloc (Nat.le_refl _) (.cells #[.int .u8 cu,.int .i64 q] 35))
 have HA0:=Lib.hid (HA.out.below ((Below.refl w.heap.size w).alloc (Nat.le_refl _) (.cells #[.int .u8 cu,.int .i64 q] 35)))
 have hz0:(w.alloc (.cells #[.int .u8 cu,.int .i64 q] 35)).heap.size=w.heap.size + 1:=by simp
 generalize w.alloc (.cells #[.int .u8 cu,.int .i64 q] 35)=W0 at *
 refine (made_acts HA0.out hle).mono ?_
 rintro e w1 ⟨G,M,ps,ls,rfl,hL,hI,hG,hM,b1⟩
 rw [hz0] at hG hM
 have hGl:=hL.blk.lt
 have hMl:=hL.map.lt
 have hGM:=hL.ne
 have I1:=Lib.hid hI
 have L1:=Lib.hid hL
 have X1:=Lib.hid (X0.out.below b1 X0.out.lt)
 have B1:=Lib.hid (B0.out.trans (b1.mono B0.out.size))
 clear hL hI b1 X0 B0 HA0 HA
 go_wp2_with fail
 refine (pcopy_any L1.out).mono ?_
 rintro e w2 ⟨G2,M2,rfl,hC2,hG2,hM2,b2⟩
 have B2:=Lib.hid (B1.out.trans (b2.mono B1.out.size))
 have X2:=Lib.hid (X1.out.below b2 X1.out.lt)
 have L2:=Lib.hid (L1.out.below b2)
 have C2:=Lib.hid hC2
 have hM2l:M<w2.heap.size:=Nat.lt_of_lt_of_le hMl b2.size
 clear b2 hC2 L1 X1 B1
 have kx:=X2.out.lt
 have x0:=X2.out.cell 0; have x1:=X2.out.cell 1
 simp at x0 x1
 go_wp2_with fail
 clear kx x0 x1
 refine (HDo.out.at_ L2.out I1.out cu HCu.out).mono ?_
 rintro e w3 ⟨dv,rfl,hr,b3⟩
 obtain ⟨D,hD⟩:∃ D,debtsL ls cu=D:=⟨_,rfl⟩
 have ED:=Lib.hid hD
 have DL:Hid (D.length≤240):=Lib.hid (by rw [← hD]; exact debts_len I1.out cu)
 have DM:Hid (MayD D):=Lib.hid (by rw [← hD]; exact debtsL_may I1.out cu)
 have DT:Hid (sumN (amD D) D.length=totL ls cu):=Lib.hid (by rw [← hD]; exact (debts_tot I1.out cu).1)
 rw [hD] at hr
 obtain ⟨ao,rfl,_⟩:=rowed_shape hr
 have D_3:=Lib.hid (DebtsBy.rowed (g:=M) hr (by have:=DL.out; omega) hM2l)
 clear hr hD
 have L_3:=Lib.hid (L2.out.below b3)
 have C_3:=Lib.hid (C2.out.below b3)
 have X_3:=Lib.hid (X2.out.below b3 X2.out.lt)
 have B_3:=Lib.hid (B2.out.trans (b3.mono B2.out.size))
 clear b3
 have CS:=Lib.hid (fun w (h:DebtsBy M w ao D)=>sumF_any (cap:=D.length) h.ins DL.out (fun i hi=>by have:=(DM.out.ok i hi).2.2.2; omega))
 rw [DT.out] at CS
 have kx:=X_3.out.lt
 have x0:=X_3.out.cell 0; have x1:=X_3.out.cell 1
 simp at x0 x1
 go_wp2_with fail
 clear kx x0 x1
 refine (CS.out _ D_3.out).mono ?_
 rintro e w4 ⟨rfl,rfl⟩
 clear CS
 have kx:=X_3.out.lt
 have x0:=X_3.out.cell 0; have x1:=X_3.out.cell 1
 simp at x0 x1
 go_wp2_with fail
 clear kx x0 x1
 refine (ptot_any L_3.out I1.out cu).mono ?_
 rintro e w5 ⟨rfl,b5⟩
 have L_5:=Lib.hid (L_3.out.below b5)
 have C_5:=Lib.hid (C_3.out.below b5)
 have X_5:=Lib.hid (X_3.out.below b5 X_3.out.lt)
 have B_5:=Lib.hid (B_3.out.trans (b5.mono B_3.out.size))
 have D_5:=Lib.hid (D_3.out.keep (Keep.of_below b5))
 clear b5
 have kx:=X_5.out.lt
 have x0:=X_5.out.cell 0; have x1:=X_5.out.cell 1
 simp at x0 x1
 go_wp2_with fail
 clear kx x0 x1
 refine (HNo.out.at_ L_5.out I1.out cu q HCu.out HQ.out).mono ?_
 rintro e w6 ⟨gone,many,er,ms,ha,rfl,hL6,k6⟩
 have L_6:=Lib.hid hL6
 have C_6:=Lib.hid (C_5.out.keep k6 (by show ¬ G2=M; omega) (by show ¬ M2=M; omega))
 have X_6:=Lib.hid (X_5.out.keep k6 (by show ¬ w.heap.size=M; omega))
 have D_6:=Lib.hid (D_5.out.keep k6)
 have B_6:=Lib.hid (B_5.out.trans (k6.below B_5.out.size (fun q hq e=>by omega)))
 clear k6 hL6
 have hsz:=B_6.out.size
 have hTB:=tot_bd I1.out cu
 obtain ⟨A,hA⟩:∃ A,totL ls cu=A:=⟨_,rfl⟩
 have EA:=Lib.hid hA
 rw [hA] at hTB ⊢
 clear hA
 go_upto_if 47 with fail
 go_cut [9,10] (fun s9 s10 wx=>∃ L k,IsLeast (debtsL ls cu) L k∧s9=.int .i64 (A - totL (netL ls cu L) cu)∧s10=.int .i64 (k:Int)∧LedM wx G M ps (netL ls cu L)∧LedM wx G2 M2 ps ls∧Blk wx w.heap.size #[.int .u8 cu,.int .i64 q] 35∧Below w.heap.size w wx∧DebtsBy M wx ao D)
 case first =>
  rcases ha with ⟨hn,rfl,rfl,rfl,hms⟩ | ⟨hc8,hq0,L,k,hLs,⟨hj,rfl,rfl,rfl,rfl⟩ | ⟨hj,rfl,rfl,rfl,hms⟩⟩
  ·skip
   have hms2:=hms.symm
   subst hms2
   have kx:=X_6.out.lt
   have x0:=X_6.out.cell 0; have x1:=X_6.out.cell 1
   simp at x0 x1
   go_wp2_with fail
   clear kx x0 x1
   refine (plines_any L_6.out I1.out).mono ?_
   rintro e w7 ⟨v1,rfl,hv1,b7⟩
   have L_7:=Lib.hid (L_6.out.below b7)
   have C_7:=Lib.hid (C_6.out.below b7)
   have X_7:=Lib.hid (X_6.out.below b7 X_6.out.lt)
   have B_7:=Lib.hid (B_6.out.trans (b7.mono B_6.out.size))
   have D_7:=Lib.hid (D_6.out.keep (Keep.of_below b7))
   clear b7
   have V_0:=Lib.hid hv1
   clear hv1
   have kx:=X_7.out.lt
   have x0:=X_7.out.cell 0; have x1:=X_7.out.cell 1
   simp at x0 x1
   go_wp2_with fail
   clear kx x0 x1
   refine (plines_any C_7.out I1.out).mono ?_
   rintro e w8 ⟨v2,rfl,hv2,b8⟩
   have L_8:=Lib.hid (L_7.out.below b8)
   have C_8:=Lib.hid (C_7.out.below b8)
   have X_8:=Lib.hid (X_7.out.below b8 X_7.out.lt)
   have B_8:=Lib.hid (B_7.out.trans (b8.mono B_7.out.size))
   have D_8:=Lib.hid (D_7.out.keep (Keep.of_below b8))
   have V_8:=Lib.hid (V_0.out.below b8)
   clear b8
   have U1:=Lib.hid hv2
   clear hv2
   have SL:=Lib.hid (SameLines_any (V_8.out.reads (by have:=I1.out.len; omega)) (U1.out.reads (by have:=I1.out.len; omega)))
   rw [show decide (ls=ls)=true by simp] at SL
   have kx:=X_8.out.lt
   have x0:=X_8.out.cell 0; have x1:=X_8.out.cell 1
   simp at x0 x1
   go_wp2_with fail
   clear kx x0 x1
   refine (SL.out).mono ?_
   rintro e w9 ⟨rfl,b9⟩
   have L_9:=Lib.hid (L_8.out.below b9)
   have C_9:=Lib.hid (C_8.out.below b9)
   have X_9:=Lib.hid (X_8.out.below b9 X_8.out.lt)
   have B_9:=Lib.hid (B_8.out.trans (b9.mono B_8.out.size))
   have D_9:=Lib.hid (D_8.out.keep (Keep.of_below b9))
   clear b9
   clear SL
   by_cases c1:1≤cu
   ·skip
    have p1:decide (1≤cu)=true:=by simpa using c1
    by_cases c2:cu≤8
    ·skip
     have p2:decide (cu≤8)=true:=by simpa using c2
     have p3:decide (0≤q)=false:=by simp; omega
     clear c1 c2 hn
     have kx:=X_9.out.lt
     have x0:=X_9.out.cell 0; have x1:=X_9.out.cell 1
     simp at x0 x1
     go_wp2_with fail
     clear kx x0 x1
     refine (HLo.out _).mono ?_
     rintro e w10 ⟨rfl,b10⟩
     have L_10:=Lib.hid (L_9.out.below b10)
     have C_10:=Lib.hid (C_9.out.below b10)
     have X_10:=Lib.hid (X_9.out.below b10 X_9.out.lt)
     have B_10:=Lib.hid (B_9.out.trans (b10.mono B_9.out.size))
     have D_10:=Lib.hid (D_9.out.keep (Keep.of_below b10))
     clear b10
     go_wp2_with fail
     go_ret
     exact ⟨rfl,B_10.out⟩
    ·skip
     have p2:decide (cu≤8)=false:=by simpa using c2
     clear c1 c2 hn
     have kx:=X_9.out.lt
     have x0:=X_9.out.cell 0; have x1:=X_9.out.cell 1
     simp at x0 x1
     go_wp2_with fail
     clear kx x0 x1
     refine (HLo.out _).mono ?_
     rintro e w10 ⟨rfl,b10⟩
     have L_10:=Lib.hid (L_9.out.below b10)
     have C_10:=Lib.hid (C_9.out.below b10)
     have X_10:=Lib.hid (X_9.out.below b10 X_9.out.lt)
     have B_10:=Lib.hid (B_9.out.trans (b10.mono B_9.out.size))
     have D_10:=Lib.hid (D_9.out.keep (Keep.of_below b10))
     clear b10
     go_wp2_with fail
     go_ret
     exact ⟨rfl,B_10.out⟩
   ·skip
    have p1:decide (1≤cu)=false:=by simpa using c1
    clear c1 hn
    have kx:=X_9.out.lt
    have x0:=X_9.out.cell 0; have x1:=X_9.out.cell 1
    simp at x0 x1
    go_wp2_with fail
    clear kx x0 x1
    refine (HLo.out _).mono ?_
    rintro e w10 ⟨rfl,b10⟩
    have L_10:=Lib.hid (L_9.out.below b10)
    have C_10:=Lib.hid (C_9.out.below b10)
    have X_10:=Lib.hid (X_9.out.below b10 X_9.out.lt)
    have B_10:=Lib.hid (B_9.out.trans (b10.mono B_9.out.size))
    have D_10:=Lib.hid (D_9.out.keep (Keep.of_below b10))
    clear b10
    go_wp2_with fail
    go_ret
    exact ⟨rfl,B_10.out⟩
  ·skip
   rw [EA.out]
   have kx:=X_6.out.lt
   have x0:=X_6.out.cell 0; have x1:=X_6.out.cell 1
   simp at x0 x1
   go_wp2_with fail
   clear kx x0 x1
   go_meet
   case rel=>exact ⟨L,k,hLs,rfl,rfl,L_6.out,C_6.out,X_6.out,B_6.out,D_6.out⟩
  ·skip
   have hms2:=hms.symm
   subst hms2
   have NG:=net_go I1.out cu hLs
   have s1:=NG.sum
   have s2:=NG.lo
   rw [EA.out] at s1
   have HLs:=Lib.hid hLs
   clear NG hLs
   have hqA:q<A:=by omega
   obtain ⟨c1,c2⟩:=hc8
   have p1:decide (1≤cu)=true:=by simpa using c1
   have p2:decide (cu≤8)=true:=by simpa using c2
   have p3:decide (0≤q)=true:=by simpa using hq0
   have p4:decide (A≤q)=false:=by simp; omega
   have kx:=X_6.out.lt
   have x0:=X_6.out.cell 0; have x1:=X_6.out.cell 1
   simp at x0 x1
   go_wp2_with fail
   clear kx x0 x1
   refine (plines_any L_6.out I1.out).mono ?_
   rintro e w7 ⟨v1,rfl,hv1,b7⟩
   have L_7:=Lib.hid (L_6.out.below b7)
   have C_7:=Lib.hid (C_6.out.below b7)
   have X_7:=Lib.hid (X_6.out.below b7 X_6.out.lt)
   have B_7:=Lib.hid (B_6.out.trans (b7.mono B_6.out.size))
   have D_7:=Lib.hid (D_6.out.keep (Keep.of_below b7))
   clear b7
   have V_0:=Lib.hid hv1
   clear hv1
   have kx:=X_7.out.lt
   have x0:=X_7.out.cell 0; have x1:=X_7.out.cell 1
   simp at x0 x1
   go_wp2_with fail
   clear kx x0 x1
   refine (plines_any C_7.out I1.out).mono ?_
   rintro e w8 ⟨v2,rfl,hv2,b8⟩
   have L_8:=Lib.hid (L_7.out.below b8)
   have C_8:=Lib.hid (C_7.out.below b8)
   have X_8:=Lib.hid (X_7.out.below b8 X_7.out.lt)
   have B_8:=Lib.hid (B_7.out.trans (b8.mono B_7.out.size))
   have D_8:=Lib.hid (D_7.out.keep (Keep.of_below b8))
   have V_8:=Lib.hid (V_0.out.below b8)
   clear b8
   have U1:=Lib.hid hv2
   clear hv2
   have SL:=Lib.hid (SameLines_any (V_8.out.reads (by have:=I1.out.len; omega)) (U1.out.reads (by have:=I1.out.len; omega)))
   rw [show decide (ls=ls)=true by simp] at SL
   have kx:=X_8.out.lt
   have x0:=X_8.out.cell 0; have x1:=X_8.out.cell 1
   simp at x0 x1
   go_wp2_with fail
   clear kx x0 x1
   refine (SL.out).mono ?_
   rintro e w9 ⟨rfl,b9⟩
   have L_9:=Lib.hid (L_8.out.below b9)
   have C_9:=Lib.hid (C_8.out.below b9)
   have X_9:=Lib.hid (X_8.out.below b9 X_8.out.lt)
   have B_9:=Lib.hid (B_8.out.trans (b9.mono B_8.out.size))
   have D_9:=Lib.hid (D_8.out.keep (Keep.of_below b9))
   clear b9
   clear SL
   have kx:=X_9.out.lt
   have x0:=X_9.out.cell 0; have x1:=X_9.out.cell 1
   simp at x0 x1
   go_wp2_with fail
   clear kx x0 x1
   refine (HNo.out.at_ L_9.out I1.out cu A HCu.out ⟨by omega,by omega⟩).mono ?_
   rintro e w10 ⟨gone,many,er,ms,ha,rfl,hL10,k10⟩
   have L_10:=Lib.hid hL10
   have C_10:=Lib.hid (C_9.out.keep k10 (by show ¬ G2=M; omega) (by show ¬ M2=M; omega))
   have X_10:=Lib.hid (X_9.out.keep k10 (by show ¬ w.heap.size=M; omega))
   have D_10:=Lib.hid (D_9.out.keep k10)
   have B_10:=Lib.hid (B_9.out.trans (k10.below B_9.out.size (fun q hq e=>by omega)))
   obtain ⟨rfl,rfl,rfl,rfl⟩:=ha.eq (.inr ⟨⟨c1,c2⟩,by omega,L,k,HLs.out,.inl ⟨by omega,rfl,rfl,rfl,rfl⟩⟩)
   rw [EA.out]
   have p5:decide ((k:Int)≤q)=false:=by simp; omega
   clear ha k10 hL10 p1 p2 p3 p4
   have kx:=X_10.out.lt
   have x0:=X_10.out.cell 0; have x1:=X_10.out.cell 1
   simp at x0 x1
   go_wp2_with fail
   clear kx x0 x1
   go_meet
   case rel=>exact ⟨L,k,HLs.out,rfl,rfl,L_10.out,C_10.out,X_10.out,B_10.out,D_10.out⟩
 case rest =>
  obtain ⟨L,k,hLs,rfl,rfl,hL,hC,hX,hB,hDb⟩:=hcut
  have NG:=net_go I1.out cu hLs
  have IT:=Lib.hid (netL_inv I1.out cu L)
  have LL:=Lib.hid hL
  have CC:=Lib.hid hC
  have XX:=Lib.hid hX
  have BB:=Lib.hid hB
  have DD:=Lib.hid hDb
  have s1:=NG.sum
  have s2:=NG.lo
  have TOT:=Lib.hid NG.tot
  have LFT:=Lib.hid NG.left
  have FAI:=Lib.hid NG.fair
  obtain ⟨far,hfew⟩:=NG.few
  have FEW:=Lib.hid hfew
  have LIM:=Lib.hid NG.lim
  have POS:=Lib.hid NG.pos
  have ELS:=Lib.hid NG.else_
  rw [EA.out] at s1
  clear hL hC hX hB hDb ha hLs NG hfew L_6 C_6 X_6 B_6 D_6
  generalize netL ls cu L=lt at *
  obtain ⟨Z,hZ⟩:∃ Z,totL lt cu=Z:=⟨_,rfl⟩
  have EZ:=Lib.hid hZ
  rw [hZ] at s1 s2 ⊢
  rw [hZ] at LFT
  clear hZ
  rw [ED.out] at FAI FEW
  have kx:=XX.out.lt
  have x0:=XX.out.cell 0; have x1:=XX.out.cell 1
  simp at x0 x1
  go_wp2_with fail
  clear kx x0 x1
  have hMx:=LL.out.map.lt
  refine (HDo.out.at_ LL.out IT.out cu HCu.out).mono ?_
  rintro e w41 ⟨dt,rfl,hr,b41⟩
  obtain ⟨E,hE⟩:∃ E,debtsL lt cu=E:=⟨_,rfl⟩
  rw [hE] at hr LFT FAI FEW
  have EL:Hid (E.length≤240):=Lib.hid (by rw [← hE]; exact debts_len IT.out cu)
  have EM:Hid (MayD E):=Lib.hid (by rw [← hE]; exact debtsL_may IT.out cu)
  obtain ⟨bo,rfl,_⟩:=rowed_shape hr
  have E_0:=Lib.hid (DebtsBy.rowed (g:=M) hr (by have:=EL.out; omega) hMx)
  clear hr hE
  have L_41:=Lib.hid (LL.out.below b41)
  have C_41:=Lib.hid (CC.out.below b41)
  have X_41:=Lib.hid (XX.out.below b41 XX.out.lt)
  have B_41:=Lib.hid (BB.out.trans (b41.mono BB.out.size))
  have D_41:=Lib.hid (DD.out.keep (Keep.of_below b41))
  clear b41
  have p1:decide ((k:Int)<0)=false:=decide_eq_false (by omega)
  have p2:decide (A - Z<(k:Int))=false:=decide_eq_false (by omega)
  have p0:(A - Z==A - Z)=true:=by simp
  go_upto_region 22 with fail
  have CSE:=Lib.hid (fun w' (hS:Below w41.heap.size w41 w')=>(by have:=sumF_any (cap:=E.length) (E_0.out.keep (Keep.of_below hS)).ins EL.out (fun i hi=>by have:=(EM.out.ok i hi).2.2.2; omega); rw [LFT.out] at this; exact this.mono fun e w'' ⟨h1,h2⟩=>⟨h1,h2 ▸ Below.refl _ _⟩:Calls Tryz.prog 19 #[.slice bo E.length E.length] w' fun e w''=>e=.returned (.int .i64 Z)∧Below w'.heap.size w' w''))
  have CTA:=Lib.hid (fun w' (hS:Below w41.heap.size w41 w')=>ptot_any (C_41.out.below hS) I1.out cu)
  rw [EA.out] at CTA
  have CTZ:=Lib.hid (fun w' (hS:Below w41.heap.size w41 w')=>ptot_any (L_41.out.below hS) IT.out cu)
  rw [EZ.out] at CTZ
  have CFA:=Lib.hid (fun w' (hS:Below w41.heap.size w41 w')=>fair_any (ca:=E.length) (cb:=D.length) (E_0.out.keep (Keep.of_below hS)).ins (D_41.out.keep (Keep.of_below hS)).ins FAI.out)
  have CLE:=Lib.hid (fun w' (hS:Below w41.heap.size w41 w')=>leastF_any (ca:=E.length) (cb:=D.length) (E_0.out.keep (Keep.of_below hS)).ins (D_41.out.keep (Keep.of_below hS)).ins FEW.out)
  have CSO:=Lib.hid (fun w' (hS:Below w41.heap.size w41 w')=>sound_any (L_41.out.below hS) IT.out (C_41.out.below hS) I1.out LIM.out)
  refine region_still (by kernel_rfl) [(.int .i64 (A - Z)),(.int .i64 A),(.slice bo E.length E.length),(.int .i64 Z),(.int .i64 (A - Z)),(.bool false),(.bool false),(.int .i64 (A - Z)),(.pointer (some ⟨G2,0,none⟩)),(.pointer (some ⟨w.heap.size,0,none⟩)),(.int .u8 cu),(.int .i64 A),(.pointer (some ⟨G,0,none⟩)),(.pointer (some ⟨w.heap.size,0,none⟩)),(.int .u8 cu),(.int .i64 Z),(.int .i64 (A - Z)),(.bool false),(.bool false),(.bool false),(.int .i64 (k:Int)),(.bool false),(.bool false),(.bool false),(.int .i64 (k:Int)),(.int .i64 (A - Z)),(.bool false),(.bool false),(.bool false),(.slice bo E.length E.length),(.slice ao D.length D.length),(.bool true),(.bool false),(.bool false),(.bool false),(.slice bo E.length E.length),(.slice ao D.length D.length),(.bool true),(.bool false),(.bool false),(.bool false),(.pointer (some ⟨G,0,none⟩)),(.pointer (some ⟨G2,0,none⟩)),(.bool true),(.bool false),(.bool false)]
   (fun w'=>Below w41.heap.size w41 w') (by kernel_rfl) (Below.refl _ _).drew ?_
  intro af haf
  simp only [List.toList_toArray,List.append_eq,List.cons_append,List.nil_append,puts,Act.put,List.getD_cons_zero,List.getD_cons_succ,List.setIfInBounds_toArray,List.set_cons_succ,List.set_cons_zero] at haf
  subst haf
  refine ⟨?_,?_⟩
  ·simp only [List.toList_toArray,List.append_eq,List.cons_append,List.nil_append,EachTo]
   refine ⟨?_,?_,?_,?_,?_,?_,?_,?_,?_,?_,?_,?_,?_,?_,?_,?_,?_,?_,?_,?_,?_,?_,?_,?_,?_,?_,?_,?_,?_,?_,?_,?_,?_,?_,?_,?_,?_,?_,?_,?_,?_,?_,?_,?_,?_,?_,trivial⟩
   ·intro w' hS
    refine OpTo.plain ?_ ?_
    exact rfl
    have HS:=Lib.hid hS
    clear hS
    go_wp2_with fail
    all_goals first | exact HS.out | exact ⟨rfl,HS.out⟩ | rfl | exact ⟨by omega,HS.out⟩
   ·intro w' hS
    refine OpTo.plain ?_ ?_
    exact rfl
    have HS:=Lib.hid hS
    clear hS
    go_wp2_with fail
    all_goals first | exact HS.out | exact ⟨rfl,HS.out⟩ | rfl | exact ⟨by omega,HS.out⟩
   ·intro w' hS
    refine OpTo.plain ?_ ?_
    exact rfl
    have HS:=Lib.hid hS
    clear hS
    go_wp2_with fail
    all_goals first | exact HS.out | exact ⟨rfl,HS.out⟩ | rfl | exact ⟨by omega,HS.out⟩
   ·intro w' hS
    refine OpTo.plain ?_ ?_
    exact rfl
    have HS:=Lib.hid hS
    clear hS
    go_wp2_with fail
    refine (CSE.out w' HS.out).mono ?_
    rintro e w'' ⟨rfl,hb2⟩
    exact ⟨rfl,andB HS.out hb2⟩
   ·intro w' hS
    refine OpTo.plain ?_ ?_
    exact rfl
    have HS:=Lib.hid hS
    clear hS
    go_wp2_with fail
    all_goals first | exact HS.out | exact ⟨rfl,HS.out⟩ | rfl | exact ⟨by omega,HS.out⟩
   ·intro w' hS
    refine OpTo.plain ?_ ?_
    exact rfl
    have HS:=Lib.hid hS
    clear hS
    go_wp2_with fail
    all_goals first | exact HS.out | exact ⟨rfl,HS.out⟩ | rfl | exact ⟨by omega,HS.out⟩
   ·intro w' hS
    refine OpTo.plain ?_ ?_
    exact rfl
    have HS:=Lib.hid hS
    clear hS
    go_wp2_with fail
    all_goals first | exact HS.out | exact ⟨rfl,HS.out⟩ | rfl | exact ⟨by omega,HS.out⟩
   ·intro w' hS
    refine OpTo.wanted ?_ ?_
    kernel_rfl
    have HS:=Lib.hid hS
    clear hS
    go_wp2_with fail
    all_goals first | exact HS.out | exact ⟨rfl,HS.out⟩ | rfl | exact ⟨by omega,HS.out⟩
   ·intro w' hS
    refine OpTo.wanted ?_ ?_
    kernel_rfl
    have HS:=Lib.hid hS
    clear hS
    go_wp2_with fail
    all_goals first | exact HS.out | exact ⟨rfl,HS.out⟩ | rfl | exact ⟨by omega,HS.out⟩
   ·intro w' hS
    refine OpTo.wanted ?_ ?_
    kernel_rfl
    have kx:=X_41.out.below hS X_41.out.lt
    have hl:=kx.lt
    have e0:=kx.cell 0; have e1:=kx.cell 1
    simp at e0 e1
    clear kx
    have HS:=Lib.hid hS
    clear hS
    go_wp2_with fail
    all_goals first | exact HS.out | exact ⟨rfl,HS.out⟩ | rfl | exact ⟨by omega,HS.out⟩
   ·intro w' hS
    refine OpTo.wanted ?_ ?_
    kernel_rfl
    have kx:=X_41.out.below hS X_41.out.lt
    have hl:=kx.lt
    have e0:=kx.cell 0; have e1:=kx.cell 1
    simp at e0 e1
    clear kx
    have HS:=Lib.hid hS
    clear hS
    go_wp2_with fail
    all_goals first | exact HS.out | exact ⟨rfl,HS.out⟩ | rfl | exact ⟨by omega,HS.out⟩
   ·intro w' hS
    refine OpTo.wanted ?_ ?_
    kernel_rfl
    have HS:=Lib.hid hS
    clear hS
    go_wp2_with fail
    refine (CTA.out w' HS.out).mono ?_
    rintro e w'' ⟨rfl,hb2⟩
    exact ⟨rfl,andB HS.out hb2⟩
   ·intro w' hS
    refine OpTo.wanted ?_ ?_
    kernel_rfl
    have HS:=Lib.hid hS
    clear hS
    go_wp2_with fail
    all_goals first | exact HS.out | exact ⟨rfl,HS.out⟩ | rfl | exact ⟨by omega,HS.out⟩
   ·intro w' hS
    refine OpTo.wanted ?_ ?_
    kernel_rfl
    have kx:=X_41.out.below hS X_41.out.lt
    have hl:=kx.lt
    have e0:=kx.cell 0; have e1:=kx.cell 1
    simp at e0 e1
    clear kx
    have HS:=Lib.hid hS
    clear hS
    go_wp2_with fail
    all_goals first | exact HS.out | exact ⟨rfl,HS.out⟩ | rfl | exact ⟨by omega,HS.out⟩
   ·intro w' hS
    refine OpTo.wanted ?_ ?_
    kernel_rfl
    have kx:=X_41.out.below hS X_41.out.lt
    have hl:=kx.lt
    have e0:=kx.cell 0; have e1:=kx.cell 1
    simp at e0 e1
    clear kx
    have HS:=Lib.hid hS
    clear hS
    go_wp2_with fail
    all_goals first | exact HS.out | exact ⟨rfl,HS.out⟩ | rfl | exact ⟨by omega,HS.out⟩
   ·intro w' hS
    refine OpTo.wanted ?_ ?_
    kernel_rfl
    have HS:=Lib.hid hS
    clear hS
    go_wp2_with fail
    refine (CTZ.out w' HS.out).mono ?_
    rintro e w'' ⟨rfl,hb2⟩
    exact ⟨rfl,andB HS.out hb2⟩
   ·intro w' hS
    refine OpTo.wanted ?_ ?_
    kernel_rfl
    have HS:=Lib.hid hS
    clear hS
    go_wp2_with fail
    all_goals first | exact HS.out | exact ⟨rfl,HS.out⟩ | rfl | exact ⟨by omega,HS.out⟩
   ·intro w' hS
    refine OpTo.wanted ?_ ?_
    kernel_rfl
    have HS:=Lib.hid hS
    clear hS
    go_wp2_with fail
    all_goals first | exact HS.out | exact ⟨rfl,HS.out⟩ | rfl | exact ⟨by omega,HS.out⟩
   ·intro w' hS
    refine OpTo.plain ?_ ?_
    exact rfl
    have HS:=Lib.hid hS
    clear hS
    go_wp2_with fail
    all_goals first | exact HS.out | exact ⟨rfl,HS.out⟩ | rfl | exact ⟨by omega,HS.out⟩
   ·intro w' hS
    refine OpTo.plain ?_ ?_
    exact rfl
    have HS:=Lib.hid hS
    clear hS
    go_wp2_with fail
    all_goals first | exact HS.out | exact ⟨rfl,HS.out⟩ | rfl | exact ⟨by omega,HS.out⟩
   ·intro w' hS
    refine OpTo.wanted ?_ ?_
    kernel_rfl
    have HS:=Lib.hid hS
    clear hS
    go_wp2_with fail
    all_goals first | exact HS.out | exact ⟨rfl,HS.out⟩ | rfl | exact ⟨by omega,HS.out⟩
   ·intro w' hS
    refine OpTo.wanted ?_ ?_
    kernel_rfl
    have HS:=Lib.hid hS
    clear hS
    go_wp2_with fail
    all_goals first | exact HS.out | exact ⟨rfl,HS.out⟩ | rfl | exact ⟨by omega,HS.out⟩
   ·intro w' hS
    refine OpTo.plain ?_ ?_
    exact rfl
    have HS:=Lib.hid hS
    clear hS
    go_wp2_with fail
    all_goals first | exact HS.out | exact ⟨rfl,HS.out⟩ | rfl | exact ⟨by omega,HS.out⟩
   ·intro w' hS
    refine OpTo.plain ?_ ?_
    exact rfl
    have HS:=Lib.hid hS
    clear hS
    go_wp2_with fail
    all_goals first | exact HS.out | exact ⟨rfl,HS.out⟩ | rfl | exact ⟨by omega,HS.out⟩
   ·intro w' hS
    refine OpTo.wanted ?_ ?_
    kernel_rfl
    have HS:=Lib.hid hS
    clear hS
    go_wp2_with fail
    all_goals first | exact HS.out | exact ⟨rfl,HS.out⟩ | rfl | exact ⟨by omega,HS.out⟩
   ·intro w' hS
    refine OpTo.wanted ?_ ?_
    kernel_rfl
    have HS:=Lib.hid hS
    clear hS
    go_wp2_with fail
    all_goals first | exact HS.out | exact ⟨rfl,HS.out⟩ | rfl | exact ⟨by omega,HS.out⟩
   ·intro w' hS
    refine OpTo.wanted ?_ ?_
    kernel_rfl
    have HS:=Lib.hid hS
    clear hS
    go_wp2_with fail
    all_goals first | exact HS.out | exact ⟨rfl,HS.out⟩ | rfl | exact ⟨by omega,HS.out⟩
   ·intro w' hS
    refine OpTo.plain ?_ ?_
    exact rfl
    have HS:=Lib.hid hS
    clear hS
    go_wp2_with fail
    all_goals first | exact HS.out | exact ⟨rfl,HS.out⟩ | rfl | exact ⟨by omega,HS.out⟩
   ·intro w' hS
    refine OpTo.plain ?_ ?_
    exact rfl
    have HS:=Lib.hid hS
    clear hS
    go_wp2_with fail
    all_goals first | exact HS.out | exact ⟨rfl,HS.out⟩ | rfl | exact ⟨by omega,HS.out⟩
   ·intro w' hS
    refine OpTo.wanted ?_ ?_
    kernel_rfl
    have HS:=Lib.hid hS
    clear hS
    go_wp2_with fail
    all_goals first | exact HS.out | exact ⟨rfl,HS.out⟩ | rfl | exact ⟨by omega,HS.out⟩
   ·intro w' hS
    refine OpTo.wanted ?_ ?_
    kernel_rfl
    have HS:=Lib.hid hS
    clear hS
    go_wp2_with fail
    all_goals first | exact HS.out | exact ⟨rfl,HS.out⟩ | rfl | exact ⟨by omega,HS.out⟩
   ·intro w' hS
    refine OpTo.wanted ?_ ?_
    kernel_rfl
    have HS:=Lib.hid hS
    clear hS
    go_wp2_with fail
    refine (CFA.out w' HS.out).mono ?_
    rintro e w'' ⟨rfl,hb2⟩
    exact ⟨rfl,andB HS.out hb2⟩
   ·intro w' hS
    refine OpTo.wanted ?_ ?_
    kernel_rfl
    have HS:=Lib.hid hS
    clear hS
    go_wp2_with fail
    all_goals first | exact HS.out | exact ⟨rfl,HS.out⟩ | rfl | exact ⟨by omega,HS.out⟩
   ·intro w' hS
    refine OpTo.plain ?_ ?_
    exact rfl
    have HS:=Lib.hid hS
    clear hS
    go_wp2_with fail
    all_goals first | exact HS.out | exact ⟨rfl,HS.out⟩ | rfl | exact ⟨by omega,HS.out⟩
   ·intro w' hS
    refine OpTo.plain ?_ ?_
    exact rfl
    have HS:=Lib.hid hS
    clear hS
    go_wp2_with fail
    all_goals first | exact HS.out | exact ⟨rfl,HS.out⟩ | rfl | exact ⟨by omega,HS.out⟩
   ·intro w' hS
    refine OpTo.wanted ?_ ?_
    kernel_rfl
    have HS:=Lib.hid hS
    clear hS
    go_wp2_with fail
    all_goals first | exact HS.out | exact ⟨rfl,HS.out⟩ | rfl | exact ⟨by omega,HS.out⟩
   ·intro w' hS
    refine OpTo.wanted ?_ ?_
    kernel_rfl
    have HS:=Lib.hid hS
    clear hS
    go_wp2_with fail
    all_goals first | exact HS.out | exact ⟨rfl,HS.out⟩ | rfl | exact ⟨by omega,HS.out⟩
   ·intro w' hS
    refine OpTo.wanted ?_ ?_
    kernel_rfl
    have HS:=Lib.hid hS
    clear hS
    go_wp2_with fail
    refine (CLE.out w' HS.out).mono ?_
    rintro e w'' ⟨rfl,hb2⟩
    exact ⟨rfl,andB HS.out hb2⟩
   ·intro w' hS
    refine OpTo.wanted ?_ ?_
    kernel_rfl
    have HS:=Lib.hid hS
    clear hS
    go_wp2_with fail
    all_goals first | exact HS.out | exact ⟨rfl,HS.out⟩ | rfl | exact ⟨by omega,HS.out⟩
   ·intro w' hS
    refine OpTo.plain ?_ ?_
    exact rfl
    have HS:=Lib.hid hS
    clear hS
    go_wp2_with fail
    all_goals first | exact HS.out | exact ⟨rfl,HS.out⟩ | rfl | exact ⟨by omega,HS.out⟩
   ·intro w' hS
    refine OpTo.plain ?_ ?_
    exact rfl
    have HS:=Lib.hid hS
    clear hS
    go_wp2_with fail
    all_goals first | exact HS.out | exact ⟨rfl,HS.out⟩ | rfl | exact ⟨by omega,HS.out⟩
   ·intro w' hS
    refine OpTo.wanted ?_ ?_
    kernel_rfl
    have HS:=Lib.hid hS
    clear hS
    go_wp2_with fail
    all_goals first | exact HS.out | exact ⟨rfl,HS.out⟩ | rfl | exact ⟨by omega,HS.out⟩
   ·intro w' hS
    refine OpTo.wanted ?_ ?_
    kernel_rfl
    have HS:=Lib.hid hS
    clear hS
    go_wp2_with fail
    all_goals first | exact HS.out | exact ⟨rfl,HS.out⟩ | rfl | exact ⟨by omega,HS.out⟩
   ·intro w' hS
    refine OpTo.wanted ?_ ?_
    kernel_rfl
    have HS:=Lib.hid hS
    clear hS
    go_wp2_with fail
    refine (CSO.out w' HS.out).mono ?_
    rintro e w'' ⟨rfl,hb2⟩
    exact ⟨rfl,andB HS.out hb2⟩
   ·intro w' hS
    refine OpTo.wanted ?_ ?_
    kernel_rfl
    have HS:=Lib.hid hS
    clear hS
    go_wp2_with fail
    all_goals first | exact HS.out | exact ⟨rfl,HS.out⟩ | rfl | exact ⟨by omega,HS.out⟩
   ·intro w' hS
    refine OpTo.plain ?_ ?_
    exact rfl
    have HS:=Lib.hid hS
    clear hS
    go_wp2_with fail
    all_goals first | exact HS.out | exact ⟨rfl,HS.out⟩ | rfl | exact ⟨by omega,HS.out⟩
  intro w42 hS
  have L_42:=Lib.hid (L_41.out.below hS)
  have C_42:=Lib.hid (C_41.out.below hS)
  have X_42:=Lib.hid (X_41.out.below hS X_41.out.lt)
  have B_42:=Lib.hid (B_41.out.trans (hS.mono B_41.out.size))
  have D_42:=Lib.hid (D_41.out.keep (Keep.of_below hS))
  clear hS
  clear CSE CTA CTZ CFA CLE CSO E_0 D_42
  clear p0 p1 p2
  go_wp2_with fail
  go_loopw [14] (fun c wr=>NLeastC w G M G2 M2 w.heap.size ps ls lt cu q c wr) (fun c _=>10 - (intOf c).toNat)
  case atStart=>exact ⟨1,by omega,by omega,rfl,L_42.out,C_42.out,X_42.out,B_42.out⟩
  case round =>
   obtain ⟨d,hd1,hd2,rfl,hL,hC,hX,hB⟩:=hrel
   have L_50:=Lib.hid hL
   have C_50:=Lib.hid hC
   have X_50:=Lib.hid hX
   have B_50:=Lib.hid hB
   clear hL hC hX hB
   by_cases hd8:d≤8
   ·skip
    have q1:decide (d≤8)=true:=by simpa using hd8
    have HDD:=Lib.hid (And.intro hd1 hd8)
    go_wp2_with fail
    go_loopw [15] (fun p wr=>NLeastP w G M G2 M2 w.heap.size ps ls lt cu q p wr) (fun p _=>18 - (intOf p).toNat)
    case atStart=>exact ⟨1,by omega,by omega,rfl,L_50.out,C_50.out,X_50.out,B_50.out⟩
    case round =>
     clear L_50 C_50 X_50 B_50
     obtain ⟨p,hp1,hp2,rfl,hL,hC,hX,hB⟩:=hrel
     have L_60:=Lib.hid hL
     have C_60:=Lib.hid hC
     have X_60:=Lib.hid hX
     have B_60:=Lib.hid hB
     clear hL hC hX hB
     by_cases hp16:p≤16
     ·skip
      have q2:decide (p≤16)=true:=by simpa using hp16
      have CM:=Lib.hid (moved_any L_60.out IT.out C_60.out I1.out p d (n:=0) (by decide) (by decide))
      rw [POS.out,Int.add_zero,decide_eq_true rfl] at CM
      go_wp2_with fail
      refine (CM.out).mono ?_
      rintro e w61 ⟨rfl,b61⟩
      have L_61:=Lib.hid (L_60.out.below b61)
      have C_61:=Lib.hid (C_60.out.below b61)
      have X_61:=Lib.hid (X_60.out.below b61 X_60.out.lt)
      have B_61:=Lib.hid (B_60.out.trans (b61.mono B_60.out.size))
      clear b61
      clear CM
      go_wp2_with fail
      exact ⟨⟨p + 1,by omega,by omega,by go_num,L_61.out,C_61.out,X_61.out,B_61.out⟩,by simp [intOf]; omega⟩
     ·skip
      have hp17:p=17:=by omega
      subst hp17
      by_cases hdc:d=cu
      ·skip
       subst hdc
       have kx:=X_60.out.lt
       have x0:=X_60.out.cell 0; have x1:=X_60.out.cell 1
       simp at x0 x1
       go_wp2_with fail
       clear kx x0 x1
       exact ⟨⟨d + 1,by omega,by omega,by go_num,L_60.out,C_60.out,X_60.out,B_60.out⟩,by simp [intOf]; omega⟩
      ·skip
       have q3:(d==cu)=false:=by simpa using hdc
       have EE:=Lib.hid (ELS.out d hdc)
       have D8:In8 d:=⟨by omega,by omega⟩
       have HD8:=Lib.hid D8
       clear D8
       have kx:=X_60.out.lt
       have x0:=X_60.out.cell 0; have x1:=X_60.out.cell 1
       simp at x0 x1
       go_wp2_with fail
       clear kx x0 x1
       refine (HDo.out.at_ L_60.out IT.out d HD8.out).mono ?_
       rintro e w61 ⟨v1,rfl,hv1,b61⟩
       have L_61:=Lib.hid (L_60.out.below b61)
       have C_61:=Lib.hid (C_60.out.below b61)
       have X_61:=Lib.hid (X_60.out.below b61 X_60.out.lt)
       have B_61:=Lib.hid (B_60.out.trans (b61.mono B_60.out.size))
       clear b61
       rw [EE.out] at hv1
       have V_0:=Lib.hid hv1
       clear hv1
       have kx:=X_61.out.lt
       have x0:=X_61.out.cell 0; have x1:=X_61.out.cell 1
       simp at x0 x1
       go_wp2_with fail
       clear kx x0 x1
       refine (HDo.out.at_ C_61.out I1.out d HD8.out).mono ?_
       rintro e w62 ⟨v2,rfl,hv2,b62⟩
       have L_62:=Lib.hid (L_61.out.below b62)
       have C_62:=Lib.hid (C_61.out.below b62)
       have X_62:=Lib.hid (X_61.out.below b62 X_61.out.lt)
       have B_62:=Lib.hid (B_61.out.trans (b62.mono B_61.out.size))
       have V_62:=Lib.hid (V_0.out.below b62)
       clear b62
       have U1:=Lib.hid hv2
       clear hv2
       have SF:=Lib.hid (SameFlows_any (la:=debtsL ls d) (lb:=debtsL ls d) (V_62.out.reads (by have:=debts_len I1.out d; omega)) (U1.out.reads (by have:=debts_len I1.out d; omega)))
       rw [decide_eq_true rfl] at SF
       have kx:=X_62.out.lt
       have x0:=X_62.out.cell 0; have x1:=X_62.out.cell 1
       simp at x0 x1
       go_wp2_with fail
       clear kx x0 x1
       refine (SF.out).mono ?_
       rintro e w63 ⟨rfl,b63⟩
       have L_63:=Lib.hid (L_62.out.below b63)
       have C_63:=Lib.hid (C_62.out.below b63)
       have X_63:=Lib.hid (X_62.out.below b63 X_62.out.lt)
       have B_63:=Lib.hid (B_62.out.trans (b63.mono B_62.out.size))
       clear b63
       clear SF
       have kx:=X_63.out.lt
       have x0:=X_63.out.cell 0; have x1:=X_63.out.cell 1
       simp at x0 x1
       go_wp2_with fail
       clear kx x0 x1
       exact ⟨⟨d + 1,by have:=HDD.out; omega,by have:=HDD.out; omega,by go_num,L_63.out,C_63.out,X_63.out,B_63.out⟩,by simp [intOf]; have:=HDD.out; omega⟩
   ·skip
    have hd9:d=9:=by omega
    subst hd9
    go_wp2_with fail
    refine (HLo.out _).mono ?_
    rintro e w51 ⟨rfl,b51⟩
    have L_51:=Lib.hid (L_50.out.below b51)
    have C_51:=Lib.hid (C_50.out.below b51)
    have X_51:=Lib.hid (X_50.out.below b51 X_50.out.lt)
    have B_51:=Lib.hid (B_50.out.trans (b51.mono B_50.out.size))
    clear b51
    go_wp2_with fail
    go_ret
    exact ⟨rfl,B_51.out⟩
theorem nleast_frame (HD:DebtsProg) (HN:NetProg) (HL:Lives13) (a:Option Addr) (len cap:Nat) (xs:List Ac) (cu q:Int) (w:World) (h0:ActsIn w a len cap xs) (hc:(Lit.int .u8 cu).wf=true) (hq:(Lit.int .i64 q).wf=true) :
  Calls Tryz.prog 4 #[.slice a len cap,.agg #[.int .u8 cu,.int .i64 q]] w fun e w'=>e=.returned (.bool true)∧Below w.heap.size w w' :=
 nleast_walk HD HN HL a len cap xs cu q w h0 (In8.of_wf hc) (In64.of_wf hq)
end Go.Proofs.YtlbjjkbppbmihaaGreat
namespace Go.Proofs.YtlbjjkbppbmihaaGreat
open Go.RowKit
structure BelowD (B:Nat) (w w':World):Prop extends Below B w w' where
 dr:w.drawn≤w'.drawn
theorem BelowD.refl (B:Nat) (w:World):BelowD B w w:=⟨Below.refl B w,Nat.le_refl _⟩
theorem BelowD.trans {B:Nat} {a b c:World} (h:BelowD B a b) (k:BelowD B b c):BelowD B a c:=⟨h.toBelow.trans k.toBelow,Nat.le_trans h.dr k.dr⟩
theorem BelowD.mono {B B':Nat} {w w':World} (h:BelowD B w w') (hb:B'≤B):BelowD B' w w':=⟨h.toBelow.mono hb,h.dr⟩
theorem BelowD.alloc {B:Nat} {a w:World} (h:BelowD B a w) (hb:B≤w.heap.size) (o:Obj):BelowD B a (w.alloc o):=⟨h.toBelow.alloc hb o,h.dr⟩
theorem BelowD.grown {w w':World} (h:BelowD w.heap.size w w'):∃ q os',w'=Go.Sort.grow (w.drewN q) os':=by
 refine ⟨w'.drawn - w.drawn,w'.heap.extract w.heap.size w'.heap.size,?_⟩
 have hd:=h.dr
 have hh:w'.heap=w.heap++w'.heap.extract w.heap.size w'.heap.size:=by
  apply Array.ext_getElem?
  intro i
  by_cases hi:i<w.heap.size
  ·rw [h.block i hi,Array.getElem?_append_left hi]
  ·rw [Array.getElem?_append_right (by omega),Array.getElem?_extract]
   by_cases hi2:i<w'.heap.size
   ·rw [if_pos (by simp; omega)]; congr 1; omega
   ·rw [if_neg (by simp; omega),Array.getElem?_eq_none (by omega)]
 obtain ⟨h0,h1,h2,h3,h4⟩:=w'
 obtain ⟨g0,g1,g2,g3,g4⟩:=w
 have e1:=h.os; have e2:=h.tape; have e3:=h.output
 simp only at hh e1 e2 e3 hd
 subst e1 e2 e3
 simp only [Go.Sort.grow,World.drewN]
 rw [← hh]
 congr 1
 omega
end Go.Proofs.YtlbjjkbppbmihaaGreat
namespace Go.Proofs.YtlbjjkbppbmihaaGreat
open Go.RowKit Go.Shelf
set_option maxHeartbeats 4000000 in
set_option maxRecDepth 100000 in
theorem ends_any (x:Fw) (w:World):Calls Tryz.prog 37 #[.agg #[.int .u8 x.fr,.int .u8 x.tt,.int .i64 x.am]] w fun e w'=>e=.returned (.tuple #[.int .u8 x.fr,.int .u8 x.tt])∧BelowD w.heap.size w w':=by
 go_enter Tryz.func37,Tryz.ntmps37
 go_wp2_with fail
 have K:=Blk.new w #[.int .u8 x.fr,.int .u8 x.tt,.int .i64 x.am] 62
 have B:=Lib.hid ((BelowD.refl w.heap.size w).alloc (Nat.le_refl _) (.cells #[.int .u8 x.fr,.int .u8 x.tt,.int .i64 x.am] 62))
 generalize w.alloc (.cells #[.int .u8 x.fr,.int .u8 x.tt,.int .i64 x.am] 62)=W at K B ⊢
 have d0:=K.cell 0
 have d1:=K.cell 1
 simp at d0 d1
 have hl:=K.lt
 clear K
 go_quiet (fail)
 have B2:∀ k,Hid (BelowD w.heap.size w (W.drewN k)):=fun k=>Lib.hid ⟨⟨B.out.os,B.out.tape,B.out.output,B.out.size,B.out.block⟩,Nat.le_trans B.out.dr (Nat.le_add_right _ _)⟩
 clear B
 go_wp2_with fail
 refine bodyPost_ret (v:=.tuple #[.int .u8 x.fr,.int .u8 x.tt]) (by simp [results,Tryz.results37,go_sem]) rfl ?_
 exact ⟨rfl,(B2 _).out⟩
set_option maxHeartbeats 4000000 in
set_option maxRecDepth 100000 in
theorem byends_any (x y:Fw) {w:World} {h:Nat} (hh:Blk w h #[.func (.func 37) #[] #[]] 74) :
  Calls Tryz.prog 67 #[.agg #[.int .u8 x.fr,.int .u8 x.tt,.int .i64 x.am],.agg #[.int .u8 y.fr,.int .u8 y.tt,.int .i64 y.am],.pointer (some ⟨h,0,none⟩)] w fun e w'=>e=.returned (.int .i64 (ordF x y))∧BelowD w.heap.size w w':=by
 unfold ordF
 have c1:=Lib.hid (fun w=>compare_q x.fr y.fr w)
 have c2:=Lib.hid (fun w=>compare_q x.tt y.tt w)
 have e1:=Lib.hid (fun w=>ends_any x w)
 have e2:=Lib.hid (fun w=>ends_any y w)
 have hen:∀ args w,(callFunc 37 args).run Tryz.prog w=.ok (.enter 37 args) w:=enters_of Tryz.func37 (by kernel_rfl) rfl
 generalize cmpD x.fr y.fr=p at *
 generalize cmpD x.tt y.tt=q at *
 have d0:=hh.cell 0
 simp at d0
 have hlt:=hh.lt
 have HH:=Lib.hid hh
 clear hh
 go_enter Tryz.func67,Tryz.ntmps67
 go_wp2_with fail
 have KX:=Lib.hid ((Blk.new w #[.int .u8 x.fr,.int .u8 x.tt,.int .i64 x.am] 62).alloc (.cells #[.int .u8 y.fr,.int .u8 y.tt,.int .i64 y.am] 62))
 have KY:=Lib.hid (Blk.newAt (w.alloc (.cells #[.int .u8 x.fr,.int .u8 x.tt,.int .i64 x.am] 62)) #[.int .u8 y.fr,.int .u8 y.tt,.int .i64 y.am] 62 (g:=w.heap.size + 1) (by simp))
 have B0:=Lib.hid (((BelowD.refl w.heap.size w).alloc (Nat.le_refl _) (.cells #[.int .u8 x.fr,.int .u8 x.tt,.int .i64 x.am] 62)).alloc (by simp) (.cells #[.int .u8 y.fr,.int .u8 y.tt,.int .i64 y.am] 62))
 refine (e1.out _).mono ?_
 rintro e w1 ⟨rfl,b1⟩
 have HH1:=(HH.out.below B0.out.toBelow HH.out.lt).below b1.toBelow (by have:=B0.out.size; have:=HH.out.lt; omega)
 have KY1:=KY.out.below b1.toBelow KY.out.lt
 have B1:=Lib.hid (B0.out.trans (b1.mono B0.out.size))
 clear b1 d0 hlt
 have d0:=HH1.cell 0
 have d1:=KY1.cell 0
 have d2:=KY1.cell 1
 have d3:=KY1.cell 2
 simp at d0 d1 d2 d3
 have l0:=HH1.lt
 have l1:=KY1.lt
 clear HH1 KY1
 go_wp2_with fail
 refine (e2.out _).mono ?_
 rintro e w2 ⟨rfl,b2⟩
 have B2:=Lib.hid (B1.out.trans (b2.mono B1.out.size))
 clear b2 d0 d1 d2 d3 l0 l1
 go_wp2_with fail
 refine (c1.out _).mono ?_
 rintro e w3 ⟨rfl,rfl⟩
 go_wp2_with fail
 refine (c2.out _).mono ?_
 rintro e w4 ⟨rfl,rfl⟩
 have KB:=Blk.new w4 #[.int .i64 p,.int .i64 q] 3
 have B3:=Lib.hid (B2.out.alloc B2.out.size (.cells #[.int .i64 p,.int .i64 q] 3))
 have HO:=Lib.hid (or_pair w4.heap.size 2 p q _ KB.lt (KB.cell 0) (KB.cell 1))
 clear KB
 go_wp2_with fail
 refine HO.out.mono ?_
 rintro e w5 ⟨rfl,rfl⟩
 go_wp2_with fail
 go_ret
 exact ⟨rfl,B3.out⟩
end Go.Proofs.YtlbjjkbppbmihaaGreat
