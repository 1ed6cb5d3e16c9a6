/-
  Pieces of one proof, without what is not wanted: Both, PFills4, SortL, PVoid, BestW.
-/
import Derived.Test.YtojbmnbphdcjfaaGreatV01
import Derived.Test.YtojbmnbphdcjfaaGreatV02
import Derived.Test.YtojbmnbphdcjfaaGreatV04
import Derived.Test.YtojbmnbphdcjfaaGreatV05
import Derived.Test.YtojbmnbphdcjfaaGreatV11
import Derived.Test.YtojbmnbphdcjfaaGreatV14
import Derived.Test.YtojbmnbphdcjfaaGreatV16
import Derived.Laws.AppendOwnNone
import Derived.Shelf.SlSortCmp.NoneTotal
import Derived.Shelf.SlMaps.Clone
import Derived.Deep.MidRow
set_option linter.unusedSimpArgs false
set_option linter.unusedVariables false
namespace Go.Proofs.YtojbmnbphdcjfaaGreat
open Go.RowKit
theorem blk_ne {w:World} {g h:Nat} {cs ds:Array Value} {t u:TypeId} (a:Blk w g cs t) (b:Blk w h ds u) (hn:t≠u):g≠h:=by
 rintro rfl
 have e:=a.out
 rw [b.out] at e
 simp only [Option.some.injEq,Obj.cells.injEq] at e
 exact hn e.2.1.symm
theorem RefL.apart {w:World} {base r G M:Nat} {ps ps':List Int} {ls ls':List Ln} {vp vl:Value} (hL:LedM w G M ps ls) (hR:RefL w base r ps' ls' vp vl) :
  (r≠G∧r≠M)∧(∀ b,vp.ownBlock=some b→b≠G∧b≠M∧b≠r)∧(∀ b,vl.ownBlock=some b→b≠G∧b≠M∧b≠r):=by
 refine ⟨⟨blk_ne hR.blk hL.blk (by decide),fun e=>hL.map.ne_blk hR.blk e.symm⟩,fun b hb=>?_,fun b hb=>?_⟩
 ·obtain ⟨_,_,cur,hc⟩:=owns_type hR.p hb
  have hbk:Blk w b cur 39:=hc
  exact ⟨blk_ne hbk hL.blk (by decide),fun e=>hL.map.ne_blk hbk e.symm,blk_ne hbk hR.blk (by decide)⟩
 ·obtain ⟨_,_,cur,hc⟩:=owns_type hR.l hb
  have hbk:Blk w b cur 112:=hc
  exact ⟨blk_ne hbk hL.blk (by decide),fun e=>hL.map.ne_blk hbk e.symm,blk_ne hbk hR.blk (by decide)⟩
def Trio (G M r:Nat) (b:Nat):Prop:=b=G∨b=M∨b=r
structure Both (W:World) (G M base r X:Nat) (xs:Array Value) (ps P:List Int) (ls L:List Ln) (c1 c2:Nat) (D:Nat→Bool) (w:World):Prop where
 keep:Keep (Trio G M r) W w
 x:Blk w X xs 92
 led:LedM w G M (cond (D c1) P ps) (cond (D c1) L ls)
 ref:∃ vp vl,RefL w base r (cond (D c2) P ps) (cond (D c2) L ls) vp vl
theorem Both.two {W w w':World} {G M base r X:Nat} {xs:Array Value} {ps P:List Int} {ls L:List Ln} {c1 c2:Nat} {D:Nat→Bool} (h:Both W G M base r X xs ps P ls L c1 c2 D w) (hc:c1≠c2) (hl:∃ vp vl,RefL w' base r P L vp vl) (hk:Keep (·=r) w w'):Both W G M base r X xs ps P ls L c1 c2 (ins c2 D) w':=by
 obtain ⟨vp,vl,hr⟩:=h.ref
 obtain ⟨⟨a1,a2⟩,a3,a4⟩:=RefL.apart h.led hr
 have e1:ins c2 D c1=D c1:=by simp [ins,hc]
 have e2:ins c2 D c2=true:=by simp [ins]
 refine ⟨h.keep.trans (hk.mono fun b _ hb=>.inr (.inr hb)),h.x.keep hk (fun e=>blk_ne h.x hr.blk (by decide) e),?_,by rw [e2]; exact hl⟩
 rw [e1]
 exact h.led.keep hk (fun e=>a1 e.symm) (fun e=>a2 e.symm)
end Go.Proofs.YtojbmnbphdcjfaaGreat
namespace Go.Proofs.YtojbmnbphdcjfaaGreat
open Go.RowKit
theorem PB.ne_map {w:World} {base g G M:Nat} {ps:List Int} {ls:List Ln} {l:List Of} {N:Int} {vl:Value} (h:PB w base g l N vl) (k:LedM w G M ps ls):(¬ g=M∧∀ b,vl.ownBlock=some b→¬ b=M)∧¬ Foot g vl G∧¬ Foot g vl M:=by
 have h1:¬ g=M:=fun e=>k.map.ne_blk h.blk e.symm
 have h2:∀ b,vl.ownBlock=some b→¬ b=M:=fun b hb e=>by
  obtain ⟨_,_,cur,hc⟩:=owns_type h.row hb
  have hB:Blk w b cur _:=hc
  exact k.map.ne_blk hB e.symm
 have h3:¬ G=g:=fun e=>by have:=blk_ne k.blk h.blk (by decide); exact this e
 have h4:¬ vl.ownBlock=some G:=fun e=>owns_ne h.row k.blk (by decide) G e rfl
 exact ⟨⟨h1,h2⟩,fun e=>e.elim h3 h4,fun e=>e.elim (fun q=>h1 q.symm) (fun q=>h2 M q rfl)⟩
theorem Keep.freshRow {S:Nat→Prop} {a w:World} (h:Keep S a w) {g:Nat} (hg:a.heap.size≤g) (cs:Array Value):Keep S a (w.setRow g cs) :=
 have k:=below_keepRow (w:=w) g cs
 ⟨k.os.trans h.os,k.tape.trans h.tape,k.output.trans h.output,Nat.le_trans h.size k.size,fun i hi hs=>(k.block i (Nat.lt_of_lt_of_le hi h.size) (by omega)).trans (h.block i hi hs)⟩
set_option maxHeartbeats 8000000 in
set_option maxRecDepth 100000 in
theorem hdo_void {w:World} {lp bp:Option Addr} {e0 N:Int} {has:Int→Bool} (h:Answers w lp e0 has) (hn:∀ w',Below w.heap.size w w'→Calls Tryz.prog 72 #[.pointer bp] w' fun e w''=>e=.returned (.int .u64 N)∧w'=w'') (he:e0=2∨N=0) (s tk pt n:Int) :
  Calls Tryz.prog 67 #[.agg #[.pointer lp,.pointer bp],.int .u64 s,.int .u8 tk,.int .u8 pt,.int .i64 n] w fun e w'=>e=.returned (.tuple #[noFill,.int .i64 2])∧Below w.heap.size w w':=by
 have b1:=(Below.refl w.heap.size w).alloc (Nat.le_refl _) (.cells #[.pointer lp,.pointer bp] 32)
 have k1:=Blk.new w #[.pointer lp,.pointer bp] 32
 generalize hW1:w.alloc (.cells #[.pointer lp,.pointer bp] 32)=W1 at *
 have b2:=(Below.refl W1.heap.size W1).alloc (Nat.le_refl _) (.cells #[.int .u64 0,.int .u8 0,.int .u8 0,.int .i64 0,.int .i64 0] 80)
 have k2:=Blk.new W1 #[.int .u64 0,.int .u8 0,.int .u8 0,.int .i64 0,.int .i64 0] 80
 generalize hW2:W1.alloc (.cells #[.int .u64 0,.int .u8 0,.int .u8 0,.int .i64 0,.int .i64 0] 80)=W2 at *
 have HW1:=Lib.hid hW1
 have HW2:=Lib.hid hW2
 have hg1:W1.heap.size=w.heap.size + 1:=by rw [← hW1]; simp
 rw [hg1] at k2
 have KX:=Lib.hid (k1.below b2 k1.lt)
 have KF:=Lib.hid k2
 have B2:=Lib.hid (b1.trans (b2.mono b1.size))
 have CM:=Lib.hid (hmade_any (h.below B2.out) (fun w' k=>hn w' (andB B2.out k)))
 rw [show (!(e0==2) && !(N==0))=false by rcases he with rfl | rfl <;> simp] at CM
 clear h hn he b1 k1 b2 k2 hW1 hW2 hg1
 go_enter Tryz.func67,Tryz.ntmps67
 go_upto_region 1 with fail
 rw [HW1.out,HW2.out]
 have e0:=KX.out.cell 0; have e1:=KX.out.cell 1
 have kx:=KX.out.lt
 simp at e0 e1
 go_wp2_with fail
 refine CM.out.mono ?_
 rintro e w1 ⟨rfl,b1⟩
 have KF1:=Lib.hid (KF.out.below b1 KF.out.lt)
 have B1:=Lib.hid (B2.out.trans (b1.mono B2.out.size))
 clear b1 e0 e1 kx KX KF B2 CM
 go_wp2_with (refine wpList_store_whole rfl 80 (.tmp 10) (.tmp 20) rfl (w.heap.size + 1) #[.int .u64 0,.int .u8 0,.int .u8 0,.int .i64 0,.int .i64 0] rfl rfl 80 _ KF1.out.out (by kernel_rfl) rfl (by simp [Value.oneCell']) ?_)
 refine bodyPost_ret (v:=.tuple #[noFill,.int .i64 2]) (results_cell_and rfl _ _ (w.heap.size + 1) 80 #[.int .u64 0,.int .u8 0,.int .u8 0,.int .i64 0,.int .i64 0] _ _ rfl (setRow_heap _ (w.heap.size + 1) _ _ _ (0,0) KF1.out.out) Tryz.underlying80 rfl (by kernel_rfl) rfl) rfl ⟨rfl,below_setRow B1.out (by omega) _⟩
set_option maxHeartbeats 32000000 in
set_option maxRecDepth 100000 in
theorem hdo_any (HR:RouteProg) (HMP:MostProg):FDoProg:=by
 intro w base G M gb ps ls l N vb hL hI hP hJ s tk pt n m1 m2 hs ht hto hn hG
 have b1:=(Below.refl w.heap.size w).alloc (Nat.le_refl _) (.cells #[.pointer (some ⟨G,0,none⟩),.pointer (some ⟨gb,0,none⟩)] 32)
 have k1:=Blk.new w #[.pointer (some ⟨G,0,none⟩),.pointer (some ⟨gb,0,none⟩)] 32
 generalize hW1:w.alloc (.cells #[.pointer (some ⟨G,0,none⟩),.pointer (some ⟨gb,0,none⟩)] 32)=W1 at *
 have b2:=(Below.refl W1.heap.size W1).alloc (Nat.le_refl _) (.cells #[.int .u64 0,.int .u8 0,.int .u8 0,.int .i64 0,.int .i64 0] 80)
 have k2:=Blk.new W1 #[.int .u64 0,.int .u8 0,.int .u8 0,.int .i64 0,.int .i64 0] 80
 generalize hW2:W1.alloc (.cells #[.int .u64 0,.int .u8 0,.int .u8 0,.int .i64 0,.int .i64 0] 80)=W2 at *
 have HW1:=Lib.hid hW1
 have HW2:=Lib.hid hW2
 have hg1:W1.heap.size=w.heap.size + 1:=by rw [← hW1]; simp
 rw [hg1] at k2
 have KX:=Lib.hid (k1.below b2 k1.lt)
 have KF:=Lib.hid k2
 have B2:=Lib.hid (b1.trans (b2.mono b1.size))
 have L0:=Lib.hid ((hL.below b1).below b2)
 have P0:=Lib.hid ((hP.below b1).below b2)
 have HGT:=Lib.hid hg1
 have II:=Lib.hid hI
 have JJ:=Lib.hid hJ
 have HT:=Lib.hid ht
 have HTo:=Lib.hid hto
 have HN:=Lib.hid hn
 have HGo:=Lib.hid hG
 have HRo:=Lib.hid HR
 have hG1:=hL.blk.lt
 have hM1:=hL.map.lt
 have hb1:=hP.blk.lt
 have HGL:=Lib.hid hG1
 have HML:=Lib.hid hM1
 have HBL:=Lib.hid hb1
 have HFO:Hid (∀ b,Foot gb vb b→b<w.heap.size):=Lib.hid (fun b hb=>(hP.lt hb).2)
 have CMd:=Lib.hid (hmade_any (N:=N) (answers_led L0.out II.out) (fun w' k=>pnext_any (P0.out.below k).blk))
 rw [show (!((1:Int)==2) && !(N==0))=true by have:=hJ.n1; simp; omega] at CMd
 have CM:=Lib.hid (fun w' (k:Below W2.heap.size W2 w')=>hmay_any HMP (L0.out.below k) hI (P0.out.below k) hJ s tk pt n 1099511627776 m1 m2 hs ht hto hn ⟨by omega,by omega⟩ hG)
 clear b1 k1 b2 k2 hW1 hW2 hL hI hP hJ hs ht hto hn hG hg1 hG1 hM1 hb1 HR HMP
 go_enter Tryz.func67,Tryz.ntmps67
 go_upto_region 1 with fail
 rw [HW1.out,HW2.out]
 have e0:=KX.out.cell 0; have e1:=KX.out.cell 1
 have kx:=KX.out.lt
 simp at e0 e1
 go_wp2_with fail
 refine CMd.out.mono ?_
 rintro e w0 ⟨rfl,b0⟩
 have CM0:=Lib.hid (CM.out w0 b0)
 have KX0:=Lib.hid (KX.out.below b0 KX.out.lt)
 have KF0:=Lib.hid (KF.out.below b0 KF.out.lt)
 have L1:=Lib.hid (L0.out.below b0)
 have P1:=Lib.hid (P0.out.below b0)
 have B0:=Lib.hid (B2.out.trans (b0.mono B2.out.size))
 clear b0 e0 e1 kx KX KF B2 CMd CM L0 P0
 have e0:=KX0.out.cell 0; have e1:=KX0.out.cell 1
 have kx:=KX0.out.lt
 simp at e0 e1
 by_cases h1:n<1
 ·have q1:decide (n<1)=true:=by simpa using h1
  have NO:Hid (¬ doOk l ps s tk pt n m1 m2):=Lib.hid (fun h=>by have:=h.1; omega)
  clear h1
  go_wp2_with (refine wpList_store_whole rfl 80 (.tmp 10) (.tmp 34) rfl (w.heap.size + 1) #[.int .u64 0,.int .u8 0,.int .u8 0,.int .i64 0,.int .i64 0] rfl rfl 80 _ KF0.out.out (by kernel_rfl) rfl (by simp [Value.oneCell']) ?_)
  refine bodyPost_ret (v:=.tuple #[noFill,.int .i64 1]) (results_cell_and rfl _ _ (w.heap.size + 1) 80 #[.int .u64 0,.int .u8 0,.int .u8 0,.int .i64 0,.int .i64 0] _ _ rfl (setRow_heap _ (w.heap.size + 1) _ _ _ (0,0) KF0.out.out) Tryz.underlying80 rfl (by kernel_rfl) rfl) rfl (.inl ⟨NO.out,rfl,below_setRow B0.out (by omega) _⟩)
 ·have q1:decide (n<1)=false:=by simpa using h1
  go_wp2_with fail
  refine CM0.out.mono ?_
  rintro e w1 ⟨rfl,b1⟩
  have KX1:=Lib.hid (KX0.out.below b1 KX0.out.lt)
  have KF1:=Lib.hid (KF0.out.below b1 KF0.out.lt)
  have L2:=Lib.hid (L1.out.below b1)
  have P2:=Lib.hid (P1.out.below b1)
  have B1:=Lib.hid (B0.out.trans (b1.mono B0.out.size))
  clear b1 e0 e1 kx KX0 KF0 L1 P1 B0 CM0
  have e0:=KX1.out.cell 0; have e1:=KX1.out.cell 1
  have kx:=KX1.out.lt
  simp at e0 e1
  by_cases h2:n≤mayV l ps s tk pt n 1099511627776 m1 m2
  ·have q2:decide (mayV l ps s tk pt n 1099511627776 m1 m2<n)=false:=by simpa using h2
   have hOK:doOk l ps s tk pt n m1 m2:=⟨by omega,h2⟩
   obtain ⟨o,hf,⟨c1,c2,c3,c4⟩,h3,h4,h5⟩:=hOK.facts
   have hGo:=(HGo.out o hf).bd II.out
   have hmem:=(findO_mem hf).1
   have hmay:=JJ.out.may o hmem
   have FT:=Lib.hid (JJ.out.fits hmem)
   obtain ⟨_,_,_,_,_,hmy⟩:=hmay
   obtain ⟨x,hx⟩:∃ x,upN (n * o.nu) o.de=x:=⟨_,rfl⟩
   obtain ⟨u1,u2,u3⟩:=up_fits hmy (g:=min 1099511627776 m2) (by omega) (by omega) (by omega) h5
   rw [hx] at u1 u2 u3
   have CU:=Lib.hid (fun w=>rup_rat n o.nu o.de w HN.out FT.out.nu FT.out.de)
   rw [u1] at CU
   have HX:=Lib.hid hx
   have HOK:=Lib.hid hOK
   have HF:=Lib.hid hf
   have CF:=Lib.hid (pfind_any P2.out JJ.out.n1 s)
   rw [hf] at CF
   dsimp only [foundV,Of.val] at CF
   have hx64:Hid (In64 x):=Lib.hid ⟨by omega,by omega⟩
   clear hOK hGo hmem hmy u1 u2 u3 hx hf h5 h4 h3 c1 c2 c3 c4
   generalize mayV l ps s tk pt n 1099511627776 m1 m2=mm at *
   clear h2
   go_wp2_with fail
   refine CF.out.mono ?_
   rintro e w2 ⟨rfl,b2⟩
   have bo:=(Below.refl w2.heap.size w2).alloc (Nat.le_refl _) (.cells #[.int .u64 o.se,.int .u8 o.ow,.int .u8 o.sl,.int .u8 o.bu,.int .i64 o.lf,.int .i64 o.nu,.int .i64 o.de] 76)
   have KO:=Lib.hid (Blk.new w2 #[.int .u64 o.se,.int .u8 o.ow,.int .u8 o.sl,.int .u8 o.bu,.int .i64 o.lf,.int .i64 o.nu,.int .i64 o.de] 76)
   have b3:=b2.trans (bo.mono b2.size)
   have KX2:=Lib.hid (KX1.out.below b3 KX1.out.lt)
   have KF2:=Lib.hid (KF1.out.below b3 KF1.out.lt)
   have L3:=Lib.hid (L2.out.below b3)
   have P3:=Lib.hid (P2.out.below b3)
   have B3:=Lib.hid (B1.out.trans (b3.mono B1.out.size))
   have HSZ:Hid (w.heap.size≤w2.heap.size):=Lib.hid (B1.out.trans (b2.mono B1.out.size)).size
   clear b2 b3 bo e0 e1 kx KX1 KF1 L2 P2 B1 CF
   have e0:=KX2.out.cell 0; have e1:=KX2.out.cell 1
   have kx:=KX2.out.lt
   simp at e0 e1
   have d0:=KO.out.cell 0; have d1:=KO.out.cell 1; have d2:=KO.out.cell 2; have d3:=KO.out.cell 3; have d4:=KO.out.cell 4; have d5:=KO.out.cell 5; have d6:=KO.out.cell 6
   have kol:=KO.out.lt
   simp at d0 d1 d2 d3 d4 d5 d6
   go_wp2_with fail
   refine (CU.out _).mono ?_
   rintro e w3 ⟨rfl,b3⟩
   have KX3:=Lib.hid (KX2.out.below b3 KX2.out.lt)
   have KO3:=Lib.hid (KO.out.below b3 KO.out.lt)
   have KF3:=Lib.hid (KF2.out.below b3 KF2.out.lt)
   have L4:=Lib.hid (L3.out.below b3)
   have P4:=Lib.hid (P3.out.below b3)
   have B4:=Lib.hid (B3.out.trans (b3.mono B3.out.size))
   clear b3 CU KX2 KO KF2 L3 P3 B3
   clear e0 e1 kx d0 d1 d2 d3 d4 d5 d6 kol
   have e0:=KX3.out.cell 0; have e1:=KX3.out.cell 1
   have kx:=KX3.out.lt
   simp at e0 e1
   have d0:=KO3.out.cell 0; have d1:=KO3.out.cell 1; have d2:=KO3.out.cell 2; have d3:=KO3.out.cell 3; have d4:=KO3.out.cell 4; have d5:=KO3.out.cell 5; have d6:=KO3.out.cell 6
   have kol:=KO3.out.lt
   simp at d0 d1 d2 d3 d4 d5 d6
   by_cases hp:pt=o.ow
   ·have q3:(pt != o.ow)=false:=by simpa using hp
    have HP:=Lib.hid hp
    clear hp
    have BK:Hid (Keep (fun k=>k=G∨k=M∨Foot gb vb k) w w3):=Lib.hid (Keep.of_below B4.out)
    clear B4
    have KXA:=KX3
    have KFA:=KF3
    have KOA:=KO3
    have LA:=L4
    have PA:=P4
    clear KX3 KF3 KO3 L4 P4
    obtain ⟨τ,hτ⟩:=route_ends (roomF_inv II.out o.bu) tk o.ow x
    have HTAU:=Lib.hid hτ
    have CP:=Lib.hid (ppay_any HRo.out LA.out II.out HT.out FT.out.ow FT.out.bu hx64.out hτ)
    clear hτ
    go_wp2_with fail
    refine CP.out.mono ?_
    rintro e w6 ⟨rfl,r6,k6⟩
    have AP:=(PA.out.ne_map LA.out).1
    have KX6:=Lib.hid (KXA.out.keep k6 (by have:=HML.out; omega))
    have KF6:=Lib.hid (KFA.out.keep k6 (by have:=HML.out; omega))
    have P6:=Lib.hid (PA.out.keep k6 AP.1 AP.2)
    have B6:=Lib.hid (BK.out.trans (k6.mono (fun k _ h=>Or.inr (Or.inl h))))
    have L6:=Lib.hid r6
    clear CP r6 k6 AP KXA KFA PA LA BK KOA
    clear e0 e1 kx d0 d1 d2 d3 d4 d5 d6 kol
    have e0:=KX6.out.cell 0; have e1:=KX6.out.cell 1
    have kx:=KX6.out.lt
    simp at e0 e1
    have CK:=Lib.hid (ptake_any P6.out JJ.out s n)
    go_wp2_with fail
    refine CK.out.mono ?_
    rintro e w7 ⟨rfl,vb7,r7,k7,mv7⟩
    have AP:=(P6.out.ne_map L6.out).2
    have hgz:¬ Foot gb vb (w.heap.size + 1):=fun h=>by have:=HFO.out _ h; omega
    have KF7:=Lib.hid (KF6.out.keep k7 hgz)
    have L7:=Lib.hid (L6.out.keep k7 AP.1 AP.2)
    have B7:=Lib.hid (B6.out.trans (k7.mono (fun k _ h=>Or.inr (Or.inr h))))
    have P7:=Lib.hid r7
    have MV:=Lib.hid (mv7.of_le B6.out.size)
    clear CK r7 k7 mv7 AP hgz KX6 KF6 P6 L6 B6
    clear e0 e1 kx
    go_wp2_with (refine wpList_store_whole rfl 80 (.tmp 10) (.tmp 81) rfl (w.heap.size + 1) #[.int .u64 s,.int .u8 tk,.int .u8 pt,.int .i64 n,.int .i64 x] rfl rfl 80 _ KF7.out.out (by kernel_rfl) rfl (by simp [Value.oneCell']) ?_)
    refine bodyPost_ret (v:=.tuple #[.agg #[.int .u64 s,.int .u8 tk,.int .u8 pt,.int .i64 n,.int .i64 x],.int .i64 0]) (results_cell_and rfl _ _ (w.heap.size + 1) 80 #[.int .u64 s,.int .u8 tk,.int .u8 pt,.int .i64 n,.int .i64 x] _ _ rfl (setRow_heap _ (w.heap.size + 1) _ _ _ (0,0) KF7.out.out) Tryz.underlying80 rfl (by kernel_rfl) rfl) rfl (.inr ⟨HOK.out,o,x,_,vb7,HF.out,HX.out.symm,⟨ls,τ,(.inl ⟨HP.out,rfl⟩),HTAU.out,rfl⟩,rfl,?_,?_,B7.out.freshRow (by omega) _,MV.out⟩)
    ·exact L7.out.keep (below_keepRow _ _) (by have:=HGL.out; omega) (by have:=HML.out; omega)
    ·refine P7.out.keep (below_keepRow _ _) (by have:=HBL.out; omega) (fun b hb h=>?_)
     subst h
     exact owns_ne P7.out.row KF7.out (by decide) _ hb rfl
   ·have q3:(pt != o.ow)=true:=by simpa using hp
    have HP:=Lib.hid hp
    clear hp
    obtain ⟨σ,hσ⟩:=route_ends (roomF_inv II.out o.sl) o.ow pt n
    have HSG:=Lib.hid hσ
    have CP:=Lib.hid (ppay_any HRo.out L4.out II.out FT.out.ow HTo.out FT.out.sl HN.out hσ)
    clear hσ
    go_wp2_with fail
    refine CP.out.mono ?_
    rintro e w5 ⟨rfl,r5,k5⟩
    have AP:=(P4.out.ne_map L4.out).1
    have KXA:=Lib.hid (KX3.out.keep k5 (by have:=HML.out; omega))
    have KFA:=Lib.hid (KF3.out.keep k5 (by have:=HML.out; omega))
    have KOA:=Lib.hid (KO3.out.keep k5 (by have:=HML.out; have:=HSZ.out; omega))
    have PA:=Lib.hid (P4.out.keep k5 AP.1 AP.2)
    have BK:Hid (Keep (fun k=>k=G∨k=M∨Foot gb vb k) w w5):=Lib.hid ((Keep.of_below B4.out).trans (k5.mono (fun k _ h=>Or.inr (Or.inl h))))
    have LA:=Lib.hid r5
    have IA:=Lib.hid (payL_inv II.out o.ow pt o.sl n σ)
    clear CP r5 k5 AP KX3 KF3 KO3 P4 L4 B4
    clear e0 e1 kx d0 d1 d2 d3 d4 d5 d6 kol
    have RT:Hid (∃ a,IsRoute (roomF ps ls o.sl) 4398046511104 o.ow pt n a∧payL ps ls o.ow pt o.sl n σ=payL ps ls o.ow pt o.sl n a):=Lib.hid ⟨σ,HSG.out,rfl⟩
    clear HSG
    generalize payL ps ls o.ow pt o.sl n σ=ls4 at *
    have e0:=KXA.out.cell 0; have e1:=KXA.out.cell 1
    have kx:=KXA.out.lt
    simp at e0 e1
    have d0:=KOA.out.cell 0; have d1:=KOA.out.cell 1; have d2:=KOA.out.cell 2; have d3:=KOA.out.cell 3; have d4:=KOA.out.cell 4; have d5:=KOA.out.cell 5; have d6:=KOA.out.cell 6
    have kol:=KOA.out.lt
    simp at d0 d1 d2 d3 d4 d5 d6
    obtain ⟨τ,hτ⟩:=route_ends (roomF_inv IA.out o.bu) tk o.ow x
    have HTAU:=Lib.hid hτ
    have CP:=Lib.hid (ppay_any HRo.out LA.out IA.out HT.out FT.out.ow FT.out.bu hx64.out hτ)
    clear hτ
    go_wp2_with fail
    refine CP.out.mono ?_
    rintro e w6 ⟨rfl,r6,k6⟩
    have AP:=(PA.out.ne_map LA.out).1
    have KX6:=Lib.hid (KXA.out.keep k6 (by have:=HML.out; omega))
    have KF6:=Lib.hid (KFA.out.keep k6 (by have:=HML.out; omega))
    have P6:=Lib.hid (PA.out.keep k6 AP.1 AP.2)
    have B6:=Lib.hid (BK.out.trans (k6.mono (fun k _ h=>Or.inr (Or.inl h))))
    have L6:=Lib.hid r6
    clear CP r6 k6 AP KXA KFA PA LA BK KOA
    clear e0 e1 kx d0 d1 d2 d3 d4 d5 d6 kol
    have e0:=KX6.out.cell 0; have e1:=KX6.out.cell 1
    have kx:=KX6.out.lt
    simp at e0 e1
    have CK:=Lib.hid (ptake_any P6.out JJ.out s n)
    go_wp2_with fail
    refine CK.out.mono ?_
    rintro e w7 ⟨rfl,vb7,r7,k7,mv7⟩
    have AP:=(P6.out.ne_map L6.out).2
    have hgz:¬ Foot gb vb (w.heap.size + 1):=fun h=>by have:=HFO.out _ h; omega
    have KF7:=Lib.hid (KF6.out.keep k7 hgz)
    have L7:=Lib.hid (L6.out.keep k7 AP.1 AP.2)
    have B7:=Lib.hid (B6.out.trans (k7.mono (fun k _ h=>Or.inr (Or.inr h))))
    have P7:=Lib.hid r7
    have MV:=Lib.hid (mv7.of_le B6.out.size)
    clear CK r7 k7 mv7 AP hgz KX6 KF6 P6 L6 B6
    clear e0 e1 kx
    go_wp2_with (refine wpList_store_whole rfl 80 (.tmp 10) (.tmp 81) rfl (w.heap.size + 1) #[.int .u64 s,.int .u8 tk,.int .u8 pt,.int .i64 n,.int .i64 x] rfl rfl 80 _ KF7.out.out (by kernel_rfl) rfl (by simp [Value.oneCell']) ?_)
    refine bodyPost_ret (v:=.tuple #[.agg #[.int .u64 s,.int .u8 tk,.int .u8 pt,.int .i64 n,.int .i64 x],.int .i64 0]) (results_cell_and rfl _ _ (w.heap.size + 1) 80 #[.int .u64 s,.int .u8 tk,.int .u8 pt,.int .i64 n,.int .i64 x] _ _ rfl (setRow_heap _ (w.heap.size + 1) _ _ _ (0,0) KF7.out.out) Tryz.underlying80 rfl (by kernel_rfl) rfl) rfl (.inr ⟨HOK.out,o,x,_,vb7,HF.out,HX.out.symm,⟨ls4,τ,(.inr ⟨HP.out,RT.out⟩),HTAU.out,rfl⟩,rfl,?_,?_,B7.out.freshRow (by omega) _,MV.out⟩)
    ·exact L7.out.keep (below_keepRow _ _) (by have:=HGL.out; omega) (by have:=HML.out; omega)
    ·refine P7.out.keep (below_keepRow _ _) (by have:=HBL.out; omega) (fun b hb h=>?_)
     subst h
     exact owns_ne P7.out.row KF7.out (by decide) _ hb rfl
  ·have q2:decide (mayV l ps s tk pt n 1099511627776 m1 m2<n)=true:=by simpa using h2
   have NO:Hid (¬ doOk l ps s tk pt n m1 m2):=Lib.hid (fun h=>h2 h.2)
   clear h2
   generalize mayV l ps s tk pt n 1099511627776 m1 m2=mm at *
   go_wp2_with (refine wpList_store_whole rfl 80 (.tmp 10) (.tmp 34) rfl (w.heap.size + 1) #[.int .u64 0,.int .u8 0,.int .u8 0,.int .i64 0,.int .i64 0] rfl rfl 80 _ KF1.out.out (by kernel_rfl) rfl (by simp [Value.oneCell']) ?_)
   refine bodyPost_ret (v:=.tuple #[noFill,.int .i64 1]) (results_cell_and rfl _ _ (w.heap.size + 1) 80 #[.int .u64 0,.int .u8 0,.int .u8 0,.int .i64 0,.int .i64 0] _ _ rfl (setRow_heap _ (w.heap.size + 1) _ _ _ (0,0) KF1.out.out) Tryz.underlying80 rfl (by kernel_rfl) rfl) rfl (.inl ⟨NO.out,rfl,below_setRow B1.out (by omega) _⟩)
end Go.Proofs.YtojbmnbphdcjfaaGreat
namespace Go.Proofs.YtojbmnbphdcjfaaGreat
open Go.RowKit Go.Shelf
end Go.Proofs.YtojbmnbphdcjfaaGreat
namespace Go.Proofs.YtojbmnbphdcjfaaGreat
open Go.RowKit
end Go.Proofs.YtojbmnbphdcjfaaGreat
namespace Go.Proofs.YtojbmnbphdcjfaaGreat
open Go.RowKit Go.Shelf Go.Sort Go.Lib
instance:Inhabited Ln:=⟨noLn⟩
end Go.Proofs.YtojbmnbphdcjfaaGreat
namespace Go.Proofs.YtojbmnbphdcjfaaGreat
open Go.RowKit
open Go.Shelf Go.Lib
open Go.Sort (grow flatK putCells HoldsK PermIn SortedIn SWO)
end Go.Proofs.YtojbmnbphdcjfaaGreat
namespace Go.Proofs.YtojbmnbphdcjfaaGreat
open Go.RowKit
end Go.Proofs.YtojbmnbphdcjfaaGreat
namespace Go.Proofs.YtojbmnbphdcjfaaGreat
open Go.RowKit
end Go.Proofs.YtojbmnbphdcjfaaGreat
namespace Go.Proofs.YtojbmnbphdcjfaaGreat
open Go.RowKit
set_option maxHeartbeats 2000000 in
set_option maxRecDepth 100000 in
theorem clone_any {w:World} {b:Nat} {es:Array MapEntry} {clock:Nat} (hb:w.heap[b]? = some (.map es clock)) :
  Calls Tryz.prog 103 #[.map (some b)] w fun e w'=>e=.returned (.map (some w.heap.size))∧w'=w.alloc (.map es clock):=by
 have hq:=fun w=>Go.Proofs.run_eql_map_nil_sl (P:=Tryz.prog) w 58 _ _ (some b) Tryz.underlying58
 go_enter Tryz.func103,Tryz.ntmps103
 go_wp2
 rw [run_callFunc_extern Tryz.func153 (by kernel_rfl) (by kernel_rfl) (by kernel_rfl) (e:=Extern.MapsClone.clone) (by kernel_rfl),Go.Proofs.run_maps_clone_sl w 58 hb]
 simp only [Result.andThen]
 rw [Oper.upon_value]
 go_wp2
 rw [Go.Proofs.run_typeAssert_map_sl _ 58 20 _ _ _ Tryz.underlying58]
 simp only [Result.andThen]
 rw [Oper.upon_value]
 go_wp2
 go_ret
 exact ⟨rfl,rfl⟩
def parC (ps:List Int):List Value:=((ledC ps (.map none)).toList.take 17)
theorem parC_len (ps:List Int):(parC ps).length=17:=by simp [parC,ledC_size]
theorem parC_get (ps:List Int) {j:Nat} (h:j<17):(parC ps)[j]? = some (.bool (decide ((j:Int) ∈ ps))):=by
 unfold parC
 rw [List.getElem?_take_of_lt h,Array.getElem?_toList,ledC_has _ _ _ h]
theorem ledC_par (ps:List Int) (v:Value):(parC ps++[v]).toArray=ledC ps v:=by
 apply Array.ext_getElem?
 intro j
 rw [List.getElem?_toArray]
 by_cases h:j<17
 ·rw [List.getElem?_append_left (by rw [parC_len]; exact h),parC_get _ h,ledC_has _ _ _ h]
 ·by_cases h2:j=17
  ·subst h2
   rw [ledC_map,List.getElem?_append_right (by rw [parC_len]; omega),parC_len]
   rfl
  ·rw [Array.getElem?_eq_none (by rw [ledC_size]; omega),List.getElem?_eq_none (by simp [parC_len]; omega)]
theorem par_range {w:World} {g:Nat} {ps:List Int} {v:Value} {t:TypeId} (h:Blk w g (ledC ps v) t):w.rangeAt g 0 (parC ps):=by
 intro j u hu
 have hj:j<17:=by
  rcases Nat.lt_or_ge j 17 with h' | h'
  ·exact h'
  ·rw [List.getElem?_eq_none (by rw [parC_len]; exact h')] at hu; cases hu
 rw [Nat.zero_add,h.cell j,ledC_has _ _ _ hj,← parC_get ps hj]
 exact hu
theorem par_form (ps:List Int):∃ b0 b1 b2 b3 b4 b5 b6 b7 b8 b9 b10 b11 b12 b13 b14 b15 b16:Bool,parC ps=[Value.bool b0,Value.bool b1,Value.bool b2,Value.bool b3,Value.bool b4,Value.bool b5,Value.bool b6,Value.bool b7,Value.bool b8,Value.bool b9,Value.bool b10,Value.bool b11,Value.bool b12,Value.bool b13,Value.bool b14,Value.bool b15,Value.bool b16]:=by
 have h:=parC_len ps
 refine ⟨decide ((0:Int) ∈ ps),decide ((1:Int) ∈ ps),decide ((2:Int) ∈ ps),decide ((3:Int) ∈ ps),decide ((4:Int) ∈ ps),decide ((5:Int) ∈ ps),decide ((6:Int) ∈ ps),decide ((7:Int) ∈ ps),decide ((8:Int) ∈ ps),decide ((9:Int) ∈ ps),decide ((10:Int) ∈ ps),decide ((11:Int) ∈ ps),decide ((12:Int) ∈ ps),decide ((13:Int) ∈ ps),decide ((14:Int) ∈ ps),decide ((15:Int) ∈ ps),decide ((16:Int) ∈ ps),?_⟩
 apply List.ext_getElem?
 intro j
 by_cases hj:j<17
 ·rw [parC_get ps hj]
  match j,hj with
  | 0,_=>rfl
  | 1,_=>rfl
  | 2,_=>rfl
  | 3,_=>rfl
  | 4,_=>rfl
  | 5,_=>rfl
  | 6,_=>rfl
  | 7,_=>rfl
  | 8,_=>rfl
  | 9,_=>rfl
  | 10,_=>rfl
  | 11,_=>rfl
  | 12,_=>rfl
  | 13,_=>rfl
  | 14,_=>rfl
  | 15,_=>rfl
  | 16,_=>rfl
  | n + 17,h=>omega
 ·rw [List.getElem?_eq_none (by omega),List.getElem?_eq_none (by simp; omega)]
theorem build_led (ps:List Int) (m:Nat) (w:World):(Instr.build 60 #[(0,.agg (parC ps).toArray),(1,.map (some m))]).run Tryz.prog w=.ok (.agg (ledC ps (.map (some m)))) w:=by
 rw [← ledC_par]
 obtain ⟨b0,b1,b2,b3,b4,b5,b6,b7,b8,b9,b10,b11,b12,b13,b14,b15,b16,hb⟩:=par_form ps
 rw [hb]
 have h:(Instr.build 60 #[(0,.agg [Value.bool b0,Value.bool b1,Value.bool b2,Value.bool b3,Value.bool b4,Value.bool b5,Value.bool b6,Value.bool b7,Value.bool b8,Value.bool b9,Value.bool b10,Value.bool b11,Value.bool b12,Value.bool b13,Value.bool b14,Value.bool b15,Value.bool b16].toArray),(1,.map (some m))]).run Tryz.prog=fun w=>.ok (.agg ([Value.bool b0,Value.bool b1,Value.bool b2,Value.bool b3,Value.bool b4,Value.bool b5,Value.bool b6,Value.bool b7,Value.bool b8,Value.bool b9,Value.bool b10,Value.bool b11,Value.bool b12,Value.bool b13,Value.bool b14,Value.bool b15,Value.bool b16]++[Value.map (some m)]).toArray) w:=by
  kernel_rfl
 rw [h]
def CopyAt (W:World) (o:Obj) (C:Array Value) (T:TypeId) (D:Nat→Bool) (w:World):Prop :=
 Below W.heap.size W w∧w.heap.size=W.heap.size + ((if D 8=true then 1 else 0) + (if D 10=true then 1 else 0))∧(D 8=true→w.heap[W.heap.size]? = some o)∧(D 10=true→w.heap[W.heap.size + 1]? = some (.cells C T))
theorem CopyAt.step {W w:World} {o:Obj} {C:Array Value} {T:TypeId} {D:Nat→Bool} {k:Nat} (h:CopyAt W o C T D w) (h8:k≠8) (h10:k≠10):CopyAt W o C T (ins k D) w:=by
 unfold CopyAt
 rw [ins_ne D (Ne.symm h8),ins_ne D (Ne.symm h10)]
 exact h
def CopyMPost (w:World) (ps:List Int) (ls:List Ln) (e:Ending) (w':World):Prop :=
 ∃ g' m',e=.returned (.pointer (some ⟨g',0,none⟩))∧LedM w' g' m' ps ls∧w.heap.size≤g'∧w.heap.size≤m'∧Below w.heap.size w w'
set_option maxHeartbeats 4000000 in
set_option maxRecDepth 100000 in
theorem pcopy_any {w:World} {G M:Nat} {ps:List Int} {ls:List Ln} (h:LedM w G M ps ls) :
  Calls Tryz.prog 50 #[.pointer (some ⟨G,0,none⟩)] w (CopyMPost w ps ls):=by
 have C1:=Lib.hid (made_any h.blk)
 have HBk:=Lib.hid h.blk
 obtain ⟨ms,⟨es,clock,hes,hst,hkv⟩,hperm⟩:=h.map
 have HM:=Lib.hid hes
 have HN:Hid (∀ w',w'.heap[w.heap.size]? = some (.map es clock)→MapIs w' w.heap.size ls):=Lib.hid fun w' hw=>⟨ms,⟨es,clock,hw,hst,hkv⟩,hperm⟩
 have hMlt:M<w.heap.size:=h.map.lt
 clear h hes hst hkv hperm
 go_enter Tryz.func50,Tryz.ntmps50
 go_wp2_with fail
 refine C1.out.mono ?_
 rintro e w ⟨rfl,rfl⟩
 go_wp2_with fail
 refine region_inv (by kernel_rfl) [(.pointer (some ⟨G,0,none⟩)),(.pointer (some ⟨G,0,none⟩)),(.pointer (some ⟨G,0,none⟩)),(.agg (parC ps).toArray),(.pointer (some ⟨G,0,none⟩)),(.pointer (some ⟨G,0,none⟩)),(.pointer (some ⟨G,17,none⟩)),(.map (some M)),(.map (some w.heap.size)),(.agg (ledC ps (.map (some w.heap.size)))),(.pointer (some ⟨w.heap.size + 1,0,none⟩)),(.pointer (some ⟨w.heap.size + 1,0,none⟩))]
  (CopyAt w (.map es clock) (ledC ps (.map (some w.heap.size))) 60) (by kernel_rfl) ⟨(Below.refl _ _).drew,by simp,by simp,by simp⟩ ?_
 intro af haf
 simp only [puts,Act.put,List.getD_cons_zero,List.getD_cons_succ,List.setIfInBounds_toArray,List.set_cons_succ,List.set_cons_zero] at haf
 subst haf
 refine ⟨?_,?_⟩
 ·simp only [EachIn]
  refine ⟨?_,?_,?_,?_,?_,?_,?_,?_,?_,?_,?_,?_,trivial⟩
  ·intro D w' hD hWt hC hI
   have hS:=hI.1
   have HI:=Lib.hid (hI.step (k:=0) (by decide) (by decide))
   have kb:=HBk.out.below hS HBk.out.lt
   have hl:=kb.lt
   have d:=kb.ledMap
   clear hS hI hC hWt hD kb
   refine OpTo.plain ?_ ?_
   exact rfl
   go_wp2_with fail
   all_goals first | exact HI.out | exact ⟨rfl,HI.out⟩ | rfl
  ·intro D w' hD hWt hC hI
   have hS:=hI.1
   have HI:=Lib.hid (hI.step (k:=1) (by decide) (by decide))
   have kb:=HBk.out.below hS HBk.out.lt
   have hl:=kb.lt
   have d:=kb.ledMap
   clear hS hI hC hWt hD kb
   refine OpTo.plain ?_ ?_
   exact rfl
   go_wp2_with fail
   all_goals first | exact HI.out | exact ⟨rfl,HI.out⟩ | rfl
  ·intro D w' hD hWt hC hI
   have hS:=hI.1
   have HI:=Lib.hid (hI.step (k:=2) (by decide) (by decide))
   have kb:=HBk.out.below hS HBk.out.lt
   have hl:=kb.lt
   have d:=kb.ledMap
   clear hS hI hC hWt hD kb
   refine OpTo.plain ?_ ?_
   exact rfl
   go_wp2_with fail
   all_goals first | exact HI.out | exact ⟨rfl,HI.out⟩ | rfl
  ·intro D w' hD hWt hC hI
   have hS:=hI.1
   have HI:=Lib.hid (hI.step (k:=3) (by decide) (by decide))
   have kb:=HBk.out.below hS HBk.out.lt
   have hl:=kb.lt
   have d:=kb.ledMap
   refine OpTo.plain ?_ ?_
   exact rfl
   refine wp_load_mid 57 (.tmp 8) rfl G 0 rfl (parC ps) _ (par_range kb) Tryz.underlying57 rfl (by rw [parC_len]; kernel_rfl) ?_
   exact ⟨rfl,HI.out⟩
  ·intro D w' hD hWt hC hI
   have hS:=hI.1
   have HI:=Lib.hid (hI.step (k:=4) (by decide) (by decide))
   have kb:=HBk.out.below hS HBk.out.lt
   have hl:=kb.lt
   have d:=kb.ledMap
   clear hS hI hC hWt hD kb
   refine OpTo.plain ?_ ?_
   exact rfl
   go_wp2_with fail
   all_goals first | exact HI.out | exact ⟨rfl,HI.out⟩ | rfl
  ·intro D w' hD hWt hC hI
   have hS:=hI.1
   have HI:=Lib.hid (hI.step (k:=5) (by decide) (by decide))
   have kb:=HBk.out.below hS HBk.out.lt
   have hl:=kb.lt
   have d:=kb.ledMap
   clear hS hI hC hWt hD kb
   refine OpTo.plain ?_ ?_
   exact rfl
   go_wp2_with fail
   all_goals first | exact HI.out | exact ⟨rfl,HI.out⟩ | rfl
  ·intro D w' hD hWt hC hI
   have hS:=hI.1
   have HI:=Lib.hid (hI.step (k:=6) (by decide) (by decide))
   have kb:=HBk.out.below hS HBk.out.lt
   have hl:=kb.lt
   have d:=kb.ledMap
   clear hS hI hC hWt hD kb
   refine OpTo.plain ?_ ?_
   exact rfl
   go_wp2_with fail
   all_goals first | exact HI.out | exact ⟨rfl,HI.out⟩ | rfl
  ·intro D w' hD hWt hC hI
   have hS:=hI.1
   have HI:=Lib.hid (hI.step (k:=7) (by decide) (by decide))
   have kb:=HBk.out.below hS HBk.out.lt
   have hl:=kb.lt
   have d:=kb.ledMap
   clear hS hI hC hWt hD kb
   refine OpTo.plain ?_ ?_
   exact rfl
   go_wp2_with fail
   all_goals first | exact HI.out | exact ⟨rfl,HI.out⟩ | rfl
  ·intro D w' hD hWt hC hI
   have h10:D 10=false:=waits_not hC hD 12 10 (by kernel_rfl)
   obtain ⟨q1,q2,q3,q4⟩:=hI
   rw [hD,h10] at q2
   have hz:w'.heap.size=w.heap.size:=by simpa using q2
   have hc:=clone_any (w:=w') (b:=M) (es:=es) (clock:=clock) (by rw [q1.block M hMlt]; exact HM.out)
   rw [hz] at hc
   have HI:Hid (CopyAt w (.map es clock) (ledC ps (.map (some w.heap.size))) 60 (ins 8 D) (w'.alloc (.map es clock))):=Lib.hid (by
    refine ⟨q1.alloc q1.size _,?_,fun _=>?_,fun d=>?_⟩
    ·rw [ins_same,ins_ne D (by decide),h10]; simp [hz]
    ·rw [← hz]; exact heap_alloc_new _ _
    ·rw [ins_ne D (by decide),h10] at d; cases d)
   have HC:=Lib.hid hc
   clear q1 q2 q3 q4 hc hC hWt hD h10
   refine OpTo.plain ?_ ?_
   exact rfl
   go_wp2_with fail
   refine HC.out.mono ?_
   rintro e w'' ⟨rfl,rfl⟩
   exact ⟨rfl,HI.out⟩
  ·intro D w' hD hWt hC hI
   have hS:=hI.1
   have HI:=Lib.hid (hI.step (k:=9) (by decide) (by decide))
   have kb:=HBk.out.below hS HBk.out.lt
   have hl:=kb.lt
   have d:=kb.ledMap
   refine OpTo.plain ?_ ?_
   exact rfl
   refine wp_build_of 60 #[(0,.tmp 9),(1,.tmp 14)] rfl #[(0,(.agg (parC ps).toArray)),(1,(.map (some w.heap.size)))] (by simp [Act.eval]) _ (build_led ps w.heap.size w') ?_
   exact ⟨rfl,HI.out⟩
  ·intro D w' hD hWt hC hI
   have h8:D 8=true:=waited_done hC hWt (d:=12) (by kernel_rfl)
   obtain ⟨q1,q2,q3,q4⟩:=hI
   rw [hD,h8] at q2
   have hz:w'.heap.size=w.heap.size + 1:=by simpa using q2
   have HI:Hid (CopyAt w (.map es clock) (ledC ps (.map (some w.heap.size))) 60 (ins 10 D) (w'.alloc (.cells (ledC ps (.map (some w.heap.size))) 60))):=Lib.hid (by
    refine ⟨q1.alloc q1.size _,?_,fun d=>?_,fun _=>?_⟩
    ·rw [ins_same,ins_ne D (by decide),h8]; simp [hz]
    ·rw [heap_alloc_old _ _ (by omega)]; exact q3 h8
    ·rw [← hz]; exact heap_alloc_new _ _)
   clear q1 q2 q3 q4 hC hWt hD h8
   refine OpTo.plain ?_ ?_
   exact rfl
   go_wp2_with fail
   all_goals first | exact HI.out | exact ⟨rfl,HI.out⟩ | exact ⟨by rw [hz],HI.out⟩
  ·intro D w' hD hWt hC hI
   have hS:=hI.1
   have HI:=Lib.hid (hI.step (k:=11) (by decide) (by decide))
   have kb:=HBk.out.below hS HBk.out.lt
   have hl:=kb.lt
   have d:=kb.ledMap
   clear hS hI hC hWt hD kb
   refine OpTo.plain ?_ ?_
   exact rfl
   go_wp2_with fail
   all_goals first | exact HI.out | exact ⟨rfl,HI.out⟩ | rfl
 intro D w2 hall hI
 obtain ⟨q1,q2,q3,q4⟩:=hI
 have q3:=q3 (hall 8 (by decide))
 have q4:=q4 (hall 10 (by decide))
 have HE:=Lib.hid (show LedM w2 (w.heap.size + 1) w.heap.size ps ls from ⟨q4,HN.out w2 q3⟩)
 have HB:=Lib.hid q1
 clear q1 q2 q3 q4 hall
 go_wp2_with fail
 refine bodyPost_ret (v:=.pointer (some ⟨w.heap.size + 1,0,none⟩)) (by simp [results,Tryz.results50,go_sem]) rfl ?_
 exact ⟨w.heap.size + 1,w.heap.size,rfl,HE.out,by omega,Nat.le_refl _,HB.out⟩
end Go.Proofs.YtojbmnbphdcjfaaGreat
namespace Go.Proofs.YtojbmnbphdcjfaaGreat
open Go.RowKit
def Void (w:World) (pv:Value):Prop:=∀ w',Below w.heap.size w w'→Calls Tryz.prog 53 #[pv] w' fun e w''=>e=.returned (.map none)∧w'=w''
theorem Void.below {w w':World} {pv:Value} (h:Void w pv) (k:Below w.heap.size w w'):Void w' pv:=fun w'' q=>h w'' (andB k q)
theorem void_nil (w:World):Void w (.pointer none):=fun w' _=>all_nil w'
theorem void_zero {w:World} {g:Nat} {ps:List Int} (h:Blk w g (ledC ps (.map none)) 60):Void w (.pointer (some ⟨g,0,none⟩)):=fun w' k=>all_any (h.below k h.lt)
theorem void_made {w:World} {pv:Value} (h:Void w pv):∀ w',Below w.heap.size w w'→Calls Tryz.prog 68 #[pv] w' fun e w''=>e=.returned (.bool false)∧w'=w'':=fun w' k=>made_of (h w' k)
set_option maxHeartbeats 2000000 in
theorem void_open {w:World} {pv:Value} (h:Void w pv) (p:Int):Calls Tryz.prog 28 #[pv,.int .u8 p] w fun e w'=>e=.returned (.int .i64 2)∧w=w':=by
 have C1:=Lib.hid (void_made h w (Below.refl _ _))
 clear h
 go_enter Tryz.func28,Tryz.ntmps28
 go_wp2_with fail
 refine C1.out.mono ?_
 rintro e w ⟨rfl,rfl⟩
 go_wp2_with fail
 go_ret
 exact ⟨rfl,rfl⟩
set_option maxHeartbeats 2000000 in
theorem void_has {w:World} {pv:Value} (h:Void w pv) (p:Int):Calls Tryz.prog 71 #[pv,.int .u8 p] w fun e w'=>e=.returned (.bool false)∧w=w':=by
 have C1:=Lib.hid (void_made h w (Below.refl _ _))
 clear h
 go_enter Tryz.func71,Tryz.ntmps71
 go_wp2_with fail
 refine C1.out.mono ?_
 rintro e w ⟨rfl,rfl⟩
 go_wp2_with fail
 go_ret
 exact ⟨rfl,rfl⟩
end Go.Proofs.YtojbmnbphdcjfaaGreat
namespace Go.Proofs.YtojbmnbphdcjfaaGreat
open Go.RowKit
def noWorse (x y:Of):Bool:=decide (cmpR y.nu y.de x.nu x.de≤0)
def insO (out:List Of) (x:Of):List Of:=out.takeWhile (noWorse x)++x::out.dropWhile (noWorse x)
def bestStep (s b:Int) (out:List Of) (x:Of):List Of:=if x.sl=s∧x.bu=b then insO out x else out
def bestO (l:List Of) (s b:Int):List Of:=l.foldl (bestStep s b) []
def ltO (x y:Of):Prop:=x.nu * y.de<y.nu * x.de∨(x.nu * y.de=y.nu * x.de∧x.se<y.se)
def ordO (x y:Of):Int:=orI (cmpR x.nu x.de y.nu y.de) (cmpI x.se y.se)
theorem cmpR_may {an ad bn bd:Int} (h1:mayB an ad=true) (h2:mayB bn bd=true):cmpR an ad bn bd=cmpI (an * bd) (bn * ad):=by unfold cmpR; rw [if_pos ⟨h1,h2⟩]
theorem ordO_lt {x y:Of} (hx:x.may) (hy:y.may):ordO x y<0↔ltO x y:=by
 unfold ordO
 rw [cmpR_may hx.2.2.2.2.2 hy.2.2.2.2.2]
 unfold ltO orI cmpI
 generalize x.nu * y.de=p
 generalize y.nu * x.de=q
 (repeat' split) <;> omega
theorem sgn3 {a1 d1 a2 d2 a3 d3:Int} (h1:1≤d1) (h2:1≤d2) (h3:1≤d3):d2 * (a1 * d3 - a3 * d1)=d3 * (a1 * d2 - a2 * d1) + d1 * (a2 * d3 - a3 * d2):=by
 simp only [Int.mul_sub]
 have e1:d2 * (a1 * d3)=d3 * (a1 * d2):=by rw [← Int.mul_assoc,Int.mul_comm d2 a1,Int.mul_comm d3,Int.mul_assoc]
 have e2:d2 * (a3 * d1)=d1 * (a3 * d2):=by rw [← Int.mul_assoc,Int.mul_comm d2 a3,Int.mul_comm d1,Int.mul_assoc]
 have e3:d3 * (a2 * d1)=d1 * (a2 * d3):=by rw [← Int.mul_assoc,Int.mul_comm d3 a2,Int.mul_comm d1,Int.mul_assoc]
 omega
theorem sgn_three {d1 d2 d3 u v t:Int} (h1:1≤d1) (h2:1≤d2) (h3:1≤d3) (h:d2 * t=d3 * u + d1 * v):(u<0→v≤0→t<0)∧(u≤0→v<0→t<0)∧(u=0→v=0→t=0)∧(0<u→0≤v→0<t)∧(0≤u→0<v→0<t):=by
 refine ⟨fun a b=>?_,fun a b=>?_,fun a b=>?_,fun a b=>?_,fun a b=>?_⟩
 ·have p:=Int.mul_neg_of_pos_of_neg (show 0<d3 by omega) a
  have q:=Int.mul_nonpos_of_nonneg_of_nonpos (show 0≤d1 by omega) b
  by_cases c:0≤t
  ·have:=Int.mul_nonneg (show 0≤d2 by omega) c; omega
  ·omega
 ·have p:=Int.mul_neg_of_pos_of_neg (show 0<d1 by omega) b
  have q:=Int.mul_nonpos_of_nonneg_of_nonpos (show 0≤d3 by omega) a
  by_cases c:0≤t
  ·have:=Int.mul_nonneg (show 0≤d2 by omega) c; omega
  ·omega
 ·subst a b
  rw [Int.mul_zero,Int.mul_zero,Int.add_zero] at h
  rcases Int.mul_eq_zero.1 h with e | e <;> omega
 ·have p:=Int.mul_pos (show 0<d3 by omega) a
  have q:=Int.mul_nonneg (show 0≤d1 by omega) b
  by_cases c:t≤0
  ·have:=Int.mul_nonpos_of_nonneg_of_nonpos (show 0≤d2 by omega) c; omega
  ·omega
 ·have p:=Int.mul_pos (show 0<d1 by omega) b
  have q:=Int.mul_nonneg (show 0≤d3 by omega) a
  by_cases c:t≤0
  ·have:=Int.mul_nonpos_of_nonneg_of_nonpos (show 0≤d2 by omega) c; omega
  ·omega
theorem Of.may.de {x:Of} (h:x.may):1≤x.de:=(may_bd h.2.2.2.2.2).2.1
theorem ltO_trans {x y z:Of} (hx:x.may) (hy:y.may) (hz:z.may) (h1:ltO x y) (h2:ltO y z):ltO x z:=by
 have k:=sgn_three hx.de hy.de hz.de (sgn3 (a1:=x.nu) (a2:=y.nu) (a3:=z.nu) hx.de hy.de hz.de)
 unfold ltO at *
 generalize x.nu * y.de=a at *
 generalize y.nu * x.de=b at *
 generalize y.nu * z.de=c at *
 generalize z.nu * y.de=d at *
 generalize x.nu * z.de=e at *
 generalize z.nu * x.de=f at *
 obtain ⟨k1,k2,k3,k4,k5⟩:=k
 rcases h1 with h1 | ⟨h1,s1⟩
 ·have:=k1 (by omega) (by omega); omega
 ·rcases h2 with h2 | ⟨h2,s2⟩
  ·have:=k2 (by omega) (by omega); omega
  ·have:=k3 (by omega) (by omega); omega
theorem ltO_ntrans {x y z:Of} (hx:x.may) (hy:y.may) (hz:z.may) (h1:¬ ltO x y) (h2:¬ ltO y z):¬ ltO x z:=by
 have k:=sgn_three hx.de hy.de hz.de (sgn3 (a1:=x.nu) (a2:=y.nu) (a3:=z.nu) hx.de hy.de hz.de)
 unfold ltO at *
 generalize x.nu * y.de=a at *
 generalize y.nu * x.de=b at *
 generalize y.nu * z.de=c at *
 generalize z.nu * y.de=d at *
 generalize x.nu * z.de=e at *
 generalize z.nu * x.de=f at *
 obtain ⟨k1,k2,k3,k4,k5⟩:=k
 by_cases u:b<a
 ·have:=k4 (by omega) (by omega); omega
 ·have ue:a=b:=by omega
  by_cases v:d<c
  ·have:=k5 (by omega) (by omega); omega
  ·have:=k3 (by omega) (by omega); omega
theorem ltO_irrefl (x:Of):¬ ltO x x:=by unfold ltO; omega
theorem ltO_total {x y:Of} (h:x.se≠y.se) (h1:¬ ltO x y):ltO y x:=by
 unfold ltO at *
 generalize x.nu * y.de=a at *
 generalize y.nu * x.de=b at *
 omega
theorem ltO_asymm {x y:Of} (h1:ltO x y) (h2:ltO y x):False:=by
 unfold ltO at *
 generalize x.nu * y.de=a at *
 generalize y.nu * x.de=b at *
 omega
theorem noWorse_lt {x y:Of} (hx:x.may) (hy:y.may) (hs:y.se<x.se) (h:noWorse x y=true):ltO y x:=by
 unfold noWorse at h
 rw [cmpR_may hy.2.2.2.2.2 hx.2.2.2.2.2] at h
 unfold ltO
 generalize x.nu * y.de=a at *
 generalize y.nu * x.de=b at *
 unfold cmpI at h
 split at h
 ·omega
 ·split at h
  ·simp at h
  ·omega
theorem worse_lt {x y:Of} (hx:x.may) (hy:y.may) (h:noWorse x y=false):ltO x y:=by
 unfold noWorse at h
 rw [cmpR_may hy.2.2.2.2.2 hx.2.2.2.2.2] at h
 unfold ltO
 generalize x.nu * y.de=a at *
 generalize y.nu * x.de=b at *
 unfold cmpI at h
 split at h
 ·simp at h
 ·split at h
  ·omega
  ·simp at h
theorem insO_perm (out:List Of) (x:Of):(insO out x).Perm (out++[x]):=by
 unfold insO
 have h1:(out.takeWhile (noWorse x)++x::out.dropWhile (noWorse x)).Perm (x::(out.takeWhile (noWorse x)++out.dropWhile (noWorse x))):=List.perm_middle
 rw [List.takeWhile_append_dropWhile] at h1
 exact h1.trans (List.perm_append_singleton x out).symm
theorem mem_takeWhile {p:Of→Bool}:∀ {l:List Of} {y:Of},y ∈ l.takeWhile p→p y=true
 | x::r,y,h=>by
  rw [List.takeWhile_cons] at h
  split at h
  ·rcases List.mem_cons.1 h with rfl | h
   ·assumption
   ·exact mem_takeWhile h
  ·simp at h
theorem insO_sorted {out:List Of} {x:Of} (hm:∀ y ∈ out,y.may) (hx:x.may) (hs:∀ y ∈ out,y.se<x.se) (ho:out.Pairwise ltO):(insO out x).Pairwise ltO:=by
 unfold insO
 have hsplit:out.takeWhile (noWorse x)++out.dropWhile (noWorse x)=out:=List.takeWhile_append_dropWhile
 have h1:∀ y ∈ out.takeWhile (noWorse x),y ∈ out∧noWorse x y=true:=fun y hy=>⟨by rw [← hsplit]; exact List.mem_append_left _ hy,mem_takeWhile hy⟩
 have h2:∀ y ∈ out.dropWhile (noWorse x),y ∈ out:=fun y hy=>by rw [← hsplit]; exact List.mem_append_right _ hy
 rw [← hsplit,List.pairwise_append] at ho
 obtain ⟨o1,o2,o3⟩:=ho
 have h3:∀ y ∈ out.dropWhile (noWorse x),ltO x y:=by
  cases hd:out.dropWhile (noWorse x) with
  | nil=>simp
  | cons z r =>
   rw [hd] at o2 h2
   have hz:noWorse x z=false:=by
    have:=List.head_dropWhile_not (noWorse x) (l:=out) (by rw [hd]; simp)
    simpa [hd] using this
   have hz2:=worse_lt hx (hm z (h2 z (by simp))) hz
   intro y hy
   rcases List.mem_cons.1 hy with rfl | hy
   ·exact hz2
   ·exact ltO_trans hx (hm z (h2 z (by simp))) (hm y (h2 y (by simp [hy]))) hz2 ((List.pairwise_cons.1 o2).1 y hy)
 rw [List.pairwise_append]
 refine ⟨o1,List.pairwise_cons.2 ⟨h3,o2⟩,fun y hy z hz=>?_⟩
 obtain ⟨hyo,hyn⟩:=h1 y hy
 have hyx:=noWorse_lt hx (hm y hyo) (hs y hyo) hyn
 rcases List.mem_cons.1 hz with rfl | hz
 ·exact hyx
 ·exact o3 y hy z hz
def ofPair (s b:Int) (x:Of):Bool:=decide (x.sl=s∧x.bu=b)
theorem foldl_best {s b:Int}:∀ (l out:List Of),(∀ x ∈ l,x.may)→(∀ x ∈ out,x.may)→l.Pairwise (fun x y=>x.se<y.se)→(∀ y ∈ out,∀ x ∈ l,y.se<x.se)→out.Pairwise ltO →
  (l.foldl (bestStep s b) out).Perm (out++l.filter (ofPair s b))∧(l.foldl (bestStep s b) out).Pairwise ltO
 | [],out,_,_,_,_,ho=>by simpa using ho
 | x::r,out,h1,h2,h3,h4,ho=>by
  obtain ⟨h3a,h3b⟩:=List.pairwise_cons.1 h3
  rw [List.foldl_cons]
  by_cases hp:x.sl=s∧x.bu=b
  ·have e:bestStep s b out x=insO out x:=by unfold bestStep; rw [if_pos hp]
   have hi:=insO_perm out x
   have hmem:∀ y ∈ insO out x,y ∈ out∨y=x:=fun y hy=>by
    have:=hi.mem_iff.1 hy
    simpa using this
   rw [e]
   obtain ⟨p,q⟩:=foldl_best r (insO out x) (fun y hy=>h1 y (by simp [hy])) (fun y hy=>by rcases hmem y hy with h | rfl; exact h2 y h; exact h1 y (by simp)) h3b
    (fun y hy z hz=>by rcases hmem y hy with h | rfl; exact h4 y h z (by simp [hz]); exact h3a z hz) (insO_sorted h2 (h1 x (by simp)) (fun y hy=>h4 y hy x (by simp)) ho)
   refine ⟨p.trans ?_,q⟩
   rw [List.filter_cons,if_pos (by unfold ofPair; simpa using hp)]
   exact (hi.append_right _).trans (by simp)
  ·have e:bestStep s b out x=out:=by unfold bestStep; rw [if_neg hp]
   rw [e]
   obtain ⟨p,q⟩:=foldl_best r out (fun y hy=>h1 y (by simp [hy])) h2 h3b (fun y hy z hz=>h4 y hy z (by simp [hz])) ho
   refine ⟨?_,q⟩
   rw [List.filter_cons,if_neg (by unfold ofPair; simpa using hp)]
   exact p
theorem bestO_is {l:List Of} (h1:∀ x ∈ l,x.may) (h3:l.Pairwise (fun x y=>x.se<y.se)) (s b:Int):(bestO l s b).Perm (l.filter (ofPair s b))∧(bestO l s b).Pairwise ltO:=by
 have:=foldl_best (s:=s) (b:=b) l [] h1 (by simp) h3 (by simp) List.Pairwise.nil
 simpa [bestO] using this
end Go.Proofs.YtojbmnbphdcjfaaGreat
