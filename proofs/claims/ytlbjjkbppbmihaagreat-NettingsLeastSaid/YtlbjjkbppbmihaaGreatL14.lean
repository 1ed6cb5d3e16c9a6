/-
  Pieces of one proof, without what is not wanted: LeastL08, RoundsQuota, FairMath.
-/
import Derived.Test.YtlbjjkbppbmihaaGreatL06
import Derived.Test.YtlbjjkbppbmihaaGreatL13
import Derived.StillTailTactics
set_option linter.unusedSimpArgs false
set_option linter.unusedVariables false
namespace Go.Proofs.YtlbjjkbppbmihaaGreat
open Go.RowKit
theorem Blk.kAt {w:World} {g:Nat} {f:Int→Int→Int} {t:TypeId} (h:Blk w g (capA f) t) {p q:Int} (h0:0≤p) (h1:p<17) (h2:0≤q) (h3:q<17):w.cell? ⟨g,p.toNat * 17 + q.toNat,none⟩=some (.int .i64 (f p q)):=by
 unfold capA at h
 rw [h.cell,gridA_at _ (by omega) (by omega),Int.toNat_of_nonneg h0,Int.toNat_of_nonneg h2]
theorem Blk.kSet {w:World} {g:Nat} {f:Int→Int→Int} {t:TypeId} (h:Blk w g (capA f) t) {p q:Int} (h0:0≤p) (h1:p<17) (h2:0≤q) (h3:q<17) (n:Int):Blk (w.setCell ⟨g,p.toNat * 17 + q.toNat,none⟩ (.int .i64 n)) g (capA (updE f p q n)) t:=by
 have:=h.set (p.toNat * 17 + q.toNat) (.int .i64 n)
 rw [capA_set f (by omega) (by omega),Int.toNat_of_nonneg h0,Int.toNat_of_nonneg h2] at this
 exact this
structure LowD (far:Int→Int) (c:Int→Int→Int):Prop where
 hi:∀ a b,c a b≤1048576
 lo:∀ a b,far b≤far a + c a b
 bd:∀ p,-1000000≤far p∧far p≤0
theorem LowD.none {far:Int→Int} (h:∀ p,-1000000≤far p∧far p≤0):LowD far noneF :=
 ⟨fun a b=>Int.le_refl _,fun a b=>by have:=h a; have:=h b; show far b≤far a + 1048576; omega,h⟩
theorem LowD.put {far:Int→Int} {c:Int→Int→Int} (h:LowD far c) {a b v:Int} (h1:far b≤far a + v) (h2:v≤1048576):LowD far (updE c a b v):=by
 refine ⟨fun x y=>?_,fun x y=>?_,h.bd⟩
 ·unfold updE
  split
  ·exact h2
  ·exact h.hi x y
 ·unfold updE
  split
  ·rename_i hc; rw [hc.1,hc.2]; exact h1
  ·exact h.lo x y
theorem LowD.low {far:Int→Int} {c:Int→Int→Int} (h:LowD far c) (a b:Int):-1000000≤c a b∧c a b≤1048576:=by
 have:=h.hi a b
 have:=h.lo a b
 have:=h.bd a
 have:=h.bd b
 omega
theorem far_bounded {es:List Ed} (hco:∀ e ∈ es,-128≤e.co∧e.co≤127) (hlen:es.length≤480) (h:roundW es=[]):∃ far:Int→Int,(∀ e ∈ es,okEd e→far e.tt≤far e.fr + e.co)∧∀ p,-1000000≤far p∧far p≤0:=by
 have key:∃ n,n<16∧(passN es (n + 1)).pt=0:=by
  unfold roundW at h
  split at h
  ·unfold roundL backL at h; cases h
  ·rename_i hc
   refine Classical.byContradiction fun hn=>hc (List.all_eq_true.2 fun n hm=>?_)
   have:(passN es (n + 1)).pt≠0:=fun he=>hn ⟨n,by simpa using hm,he⟩
   simpa using this
 obtain ⟨n,hn,hp⟩:=key
 have hs:=still_pass hp
 have hb:=passN_bd (fun e he=>(hco e he).1) n
 refine ⟨(passN es n).far,fun e he ho=>hs e he ho,fun p=>?_⟩
 have h1:=hb p
 have h2:n * es.length≤15 * 480:=Nat.mul_le_mul (by omega) hlen
 omega
structure LeastI (far:Int→Int) (l m:List Fw):Prop where
 lenL:l.length≤240
 lenM:m.length≤240
 okM:∀ i,i<m.length→(0≤(dbt m i).fr∧(dbt m i).fr≤16)∧(0≤(dbt m i).tt∧(dbt m i).tt≤16)
 down:∀ i,i<m.length→0<ofL l (dbt m i).fr (dbt m i).tt→far (dbt m i).tt≤far (dbt m i).fr - 1
 up:∀ i,i<m.length→ofL l (dbt m i).fr (dbt m i).tt<(dbt m i).am→far (dbt m i).fr≤far (dbt m i).tt + 1
 bd:∀ p,-1000000≤far p∧far p≤0
theorem zero_cost:(∀ w,(zeroValue 103).run Tryz.prog w=.ok (.agg (capA fun _ _=>0)) w)∧(Tryz.prog.info? 103).map (·.size)=some 289 :=
 zero_of_info (by kernel_rfl)
def CoFillO (w:World) (i:Value) (wr:World):Prop:=∃ k:Nat,k≤17∧i=.int .i64 k∧Blk wr w.heap.size (capA (fillO k)) 103∧Below w.heap.size w wr
def CoFillI (w:World) (k:Nat) (i:Value) (wr:World):Prop:=∃ j:Nat,j≤17∧i=.int .i64 j∧Blk wr w.heap.size (capA (fillI k j)) 103∧Below w.heap.size w wr
def CoAt (w:World) (far:Int→Int) (n:Nat) (i:Value) (wr:World):Prop:=∃ (k:Nat) (c:Int→Int→Int),k≤n∧i=.int .i64 k∧LowD far c∧Blk wr w.heap.size (capA c) 103∧Below w.heap.size w wr
def CoLow (w:World) (far:Int→Int) (i:Value) (wr:World):Prop:=∃ (p:Int) (c:Int→Int→Int),1≤p∧p≤17∧i=.int .i64 p∧LowD far c∧Blk wr w.heap.size (capA c) 103∧Below w.heap.size w wr
set_option maxHeartbeats 32000000 in
set_option maxRecDepth 100000 in
theorem leastF_any {w:World} {ao bo:Option Addr} {ca cb:Nat} {l m:List Fw} {far:Int→Int} (hl:DebtsIn w ao l) (hm:DebtsIn w bo m) (hI:LeastI far l m) :
  Calls Tryz.prog 24 #[.slice ao l.length ca,.slice bo m.length cb] w fun e w'=>e=.returned (.bool true)∧Below w.heap.size w w':=by
 have HL:=Lib.hid hl
 have HM:=Lib.hid hm
 have HI:=Lib.hid hI
 have hz:=zero_cost.1
 have lnM:=hI.lenM
 have K0:=Lib.hid (Blk.new w (capA fun _ _=>0) 103)
 have B0:=Lib.hid ((Below.refl w.heap.size w).alloc (Nat.le_refl _) (.cells (capA fun _ _=>0) 103))
 clear hl hm hI
 go_enter Tryz.func24,Tryz.ntmps24
 go_wp2_with fail
 generalize w.alloc (.cells (capA fun _ _=>0) 103)=W0 at K0 B0 ⊢
 clear hz
 go_loopw [6] (CoFillO w) (fun i _=>17 - (intOf i).toNat)
 case atStart=>exact ⟨0,by omega,rfl,by rw [fillO_zero]; exact K0.out,B0.out⟩
 case round =>
  clear K0 B0
  obtain ⟨k,hk,rfl,hX,hB⟩:=hrel
  have KX:=Lib.hid hX
  have BB:=Lib.hid hB
  clear hX hB
  by_cases hkl:k<17
  ·have hki:(k:Int)<17:=by omega
   go_wp2_with fail
   go_loopw [7] (CoFillI w k) (fun i _=>17 - (intOf i).toNat)
   case atStart=>exact ⟨0,by omega,rfl,by rw [fillI_zero]; exact KX.out,BB.out⟩
   case round =>
    clear KX BB
    obtain ⟨j,hj,rfl,hX,hB⟩:=hrel
    have KX:=Lib.hid hX
    have BB:=Lib.hid hB
    have hxl:=hX.lt
    clear hX hB
    by_cases hjl:j<17
    ·have hji:(j:Int)<17:=by omega
     have dm:=KX.out.kAt (p:=(k:Int)) (q:=(j:Int)) (by omega) hki (by omega) hji
     have fr:=KX.out.frozen ((k:Int).toNat * 17 + (j:Int).toNat)
     have kx:=KX.out.kSet (p:=(k:Int)) (q:=(j:Int)) (by omega) hki (by omega) hji 1048576
     rw [fillI_next hkl hjl] at kx
     have KX2:=Lib.hid kx
     have B2:=Lib.hid (BB.out.setCell (p:=⟨w.heap.size,(k:Int).toNat * 17 + (j:Int).toNat,none⟩) (Nat.le_refl _) (.int .i64 1048576))
     clear kx
     rw [Int.toNat_natCast,Int.toNat_natCast] at dm fr KX2 B2
     go_wp2_with fail
     go_roundw
     case rel=>exact ⟨j + 1,by omega,by go_num,KX2.out,B2.out⟩
     case measure=>simp [intOf]; omega
    ·have hj17:j=17:=by omega
     subst hj17
     rw [show ((17:Nat):Int)=17 from rfl]
     go_wp2_with fail
     go_roundw
     case rel=>exact ⟨k + 1,by omega,by go_num,by rw [← fillI_all]; exact KX.out,BB.out⟩
     case measure=>simp [intOf]; omega
  ·have hk17:k=17:=by omega
   subst hk17
   rw [show ((17:Nat):Int)=17 from rfl]
   rw [fillO_all] at KX
   go_wp2_with fail
   go_loopw [8] (CoAt w far m.length) (fun i _=>m.length - (intOf i).toNat)
   case atStart=>exact ⟨0,_,by omega,rfl,LowD.none HI.out.bd,KX.out,BB.out⟩
   case round =>
    clear KX BB
    obtain ⟨k,c,hk,rfl,hlow,hX,hB⟩:=hrel
    have LO:=Lib.hid hlow
    have KX0:=Lib.hid hX
    have BB:=Lib.hid hB
    clear hX hB hlow
    by_cases hkl:k<m.length
    ·have qk:decide ((k:Int)<(m.length:Int))=true:=by simpa using hkl
     have k0:(0:Int)≤(k:Int):=by omega
     have k1:(k:Int)<(m.length:Int):=by omega
     obtain ⟨b,off,rfl,hbw,hcell⟩:=HM.out (by omega)
     obtain ⟨e0,e1,e2⟩:=hcell k hkl
     have d0:=(BB.out.cell (p:=⟨b,off + k * 3,none⟩) hbw).trans e0
     have d1:=(BB.out.cell (p:=⟨b,off + k * 3 + 1,none⟩) hbw).trans e1
     have d2:=(BB.out.cell (p:=⟨b,off + k * 3 + 2,none⟩) hbw).trans e2
     have hbr:=Nat.lt_of_lt_of_le hbw BB.out.size
     obtain ⟨⟨f0,f9⟩,⟨t0,t9⟩⟩:=HI.out.okM k hkl
     have DN:=Lib.hid (HI.out.down k hkl)
     have UP:=Lib.hid (HI.out.up k hkl)
     have CP:Hid (∀ w',Below w.heap.size w w'→Calls Tryz.prog 57 #[.slice ao l.length ca,.int .u8 (dbt m k).fr,.int .u8 (dbt m k).tt] w' fun e w''=>e=.returned (.int .i64 (ofL l (dbt m k).fr (dbt m k).tt))∧w''=w'):=Lib.hid fun w' hb=>ofF_any (HL.out.below hb) HI.out.lenL _ _
     obtain ⟨y,hy⟩:∃ y,ofL l (dbt m k).fr (dbt m k).tt=y:=⟨_,rfl⟩
     rw [hy] at CP DN UP
     generalize dbt m k=x at *
     obtain ⟨fr,tt,am⟩:=x
     dsimp only at d0 d1 d2 f0 f9 t0 t9 CP DN UP
     have HLT:=Lib.hid hkl
     have hxl:=KX0.out.lt
     clear hcell e0 e1 e2 hy
     have KY:=Lib.hid (Blk.new wr #[.int .u8 fr,.int .u8 tt,.int .i64 am] 62)
     have KZ:=Lib.hid (KX0.out.alloc (.cells #[.int .u8 fr,.int .u8 tt,.int .i64 am] 62))
     have BZ:=Lib.hid (BB.out.alloc BB.out.size (.cells #[.int .u8 fr,.int .u8 tt,.int .i64 am] 62))
     have CZ:=Lib.hid (CP.out _ BZ.out)
     have q1:decide (16<fr)=false:=by simp; omega
     have q2:decide (16<tt)=false:=by simp; omega
     clear CP KX0 BB
     go_wp2_with fail
     refine CZ.out.mono ?_
     rintro e w2 ⟨rfl,rfl⟩
     have KY2:=KY.out
     have KZ2:=KZ.out
     have BZ2:=BZ.out
     have LO2:=LO.out
     clear CZ KY KZ BZ LO d0 d1 d2
     have hne:wr.heap.size≠w.heap.size:=by omega
     generalize wr.alloc (.cells #[.int .u8 fr,.int .u8 tt,.int .i64 am] 62)=V at KY2 KZ2 BZ2 ⊢
     generalize wr.heap.size=Y at *
     by_cases hy0:0<y
     ·have q4:decide (0<y)=true:=by simpa using hy0
      have g0:=KY2.cell 0
      have g1:=KY2.cell 1
      have g2:=KY2.cell 2
      have gl:=KY2.lt
      have zl:=KZ2.lt
      simp at g0 g1 g2
      have zd:=KZ2.kAt (p:=fr) (q:=tt) (by omega) (by omega) (by omega) (by omega)
      have zf:=KZ2.frozen (fr.toNat * 17 + tt.toNat)
      have KY3:=Lib.hid (KY2.setOther (a:=⟨w.heap.size,fr.toNat * 17 + tt.toNat,none⟩) (by intro e; exact hne e) (.int .i64 (-1)))
      have KZ3:=Lib.hid (KZ2.kSet (p:=fr) (q:=tt) (by omega) (by omega) (by omega) (by omega) (-1))
      have BZ3:=Lib.hid (BZ2.setCell (p:=⟨w.heap.size,fr.toNat * 17 + tt.toNat,none⟩) (Nat.le_refl _) (.int .i64 (-1)))
      have LO3:=Lib.hid (LO2.put (a:=fr) (b:=tt) (v := -1) (by have:=DN.out hy0; omega) (by omega))
      clear KY2 KZ2 BZ2 LO2 hy0
      go_wp2_with fail
      go_region
      have KY5:=Blk.drew KY3.out
      have KZ5:=Blk.drew KZ3.out
      have BZ5:=BZ3.out.drew
      have LO5:=LO3.out
      clear KY3 KZ3 BZ3 LO3 g0 g1 g2 gl zl zd zf q4
      generalize (V.setCell ⟨w.heap.size,fr.toNat * 17 + tt.toNat,none⟩ (.int .i64 (-1))).drew=V5 at KY5 KZ5 BZ5 ⊢
      generalize updE c fr tt (-1)=c5 at *
      have g0:=KY5.cell 0
      have g1:=KY5.cell 1
      have g2:=KY5.cell 2
      have gl:=KY5.lt
      have zl:=KZ5.lt
      simp at g0 g1 g2
      by_cases h2:y<am
      ·have q5:decide (y<am)=true:=by simpa using h2
       have hup:=UP.out h2
       obtain ⟨cv,hcv⟩:∃ x,c5 tt fr=x:=⟨_,rfl⟩
       have zd:=KZ5.kAt (p:=tt) (q:=fr) (by omega) (by omega) (by omega) (by omega)
       have zf:=KZ5.frozen (tt.toNat * 17 + fr.toNat)
       have hlo:=LO5.lo tt fr
       obtain ⟨b1,b2⟩:=LO5.low tt fr
       rw [hcv] at zd hlo b1 b2
       by_cases h3:cv≤1
       ·have q6:min cv 1=cv:=Int.min_eq_left h3
        have q7:¬ 1<cv:=by omega
        clear h2
        have KZ6:=Lib.hid (KZ5.kSet (p:=tt) (q:=fr) (by omega) (by omega) (by omega) (by omega) cv)
        have BZ6:=Lib.hid (BZ5.setCell (p:=⟨w.heap.size,tt.toNat * 17 + fr.toNat,none⟩) (Nat.le_refl _) (.int .i64 cv))
        have LO6:=Lib.hid (LO5.put (a:=tt) (b:=fr) (v:=cv) hlo (by omega))
        clear KY5 KZ5 BZ5 LO5 hcv
        go_wp2_with fail
        go_region
        all_goals
         go_wp2
         go_roundw
         case rel=>exact ⟨k + 1,_,by have:=HLT.out; omega,by go_num,LO6.out,KZ6.out,BZ6.out.drew⟩
         case measure=>simp [intOf]; have:=HLT.out; omega
       ·have q6:min cv 1=1:=Int.min_eq_right (by omega)
        have q7:1<cv:=by omega
        clear h2
        have KZ6:=Lib.hid (KZ5.kSet (p:=tt) (q:=fr) (by omega) (by omega) (by omega) (by omega) 1)
        have BZ6:=Lib.hid (BZ5.setCell (p:=⟨w.heap.size,tt.toNat * 17 + fr.toNat,none⟩) (Nat.le_refl _) (.int .i64 1))
        have LO6:=Lib.hid (LO5.put (a:=tt) (b:=fr) (v:=1) hup (by omega))
        clear KY5 KZ5 BZ5 LO5 hcv
        go_wp2_with fail
        go_region
        all_goals
         go_wp2
         go_roundw
         case rel=>exact ⟨k + 1,_,by have:=HLT.out; omega,by go_num,LO6.out,KZ6.out,BZ6.out.drew⟩
         case measure=>simp [intOf]; have:=HLT.out; omega
      ·have q5:decide (y<am)=false:=by simpa using h2
       have KZ6:=Lib.hid KZ5
       have BZ6:=Lib.hid BZ5
       have LO6:=Lib.hid LO5
       clear h2 KY5 KZ5 BZ5 LO5
       go_wp2_with fail
       go_roundw
       case rel=>exact ⟨k + 1,_,by have:=HLT.out; omega,by go_num,LO6.out,KZ6.out,BZ6.out⟩
       case measure=>simp [intOf]; have:=HLT.out; omega
     ·have q4:decide (0<y)=false:=by simpa using hy0
      obtain ⟨V5,rfl⟩:∃ x,x=V:=⟨_,rfl⟩
      obtain ⟨c5,rfl⟩:∃ x,x=c:=⟨_,rfl⟩
      have KY5:=KY2
      have KZ5:=KZ2
      have BZ5:=BZ2
      have LO5:=LO2
      clear KY2 KZ2 BZ2 LO2 hy0
      have g0:=KY5.cell 0
      have g1:=KY5.cell 1
      have g2:=KY5.cell 2
      have gl:=KY5.lt
      have zl:=KZ5.lt
      simp at g0 g1 g2
      by_cases h2:y<am
      ·have q5:decide (y<am)=true:=by simpa using h2
       have hup:=UP.out h2
       obtain ⟨cv,hcv⟩:∃ x,c5 tt fr=x:=⟨_,rfl⟩
       have zd:=KZ5.kAt (p:=tt) (q:=fr) (by omega) (by omega) (by omega) (by omega)
       have zf:=KZ5.frozen (tt.toNat * 17 + fr.toNat)
       have hlo:=LO5.lo tt fr
       obtain ⟨b1,b2⟩:=LO5.low tt fr
       rw [hcv] at zd hlo b1 b2
       by_cases h3:cv≤1
       ·have q6:min cv 1=cv:=Int.min_eq_left h3
        have q7:¬ 1<cv:=by omega
        clear h2
        have KZ6:=Lib.hid (KZ5.kSet (p:=tt) (q:=fr) (by omega) (by omega) (by omega) (by omega) cv)
        have BZ6:=Lib.hid (BZ5.setCell (p:=⟨w.heap.size,tt.toNat * 17 + fr.toNat,none⟩) (Nat.le_refl _) (.int .i64 cv))
        have LO6:=Lib.hid (LO5.put (a:=tt) (b:=fr) (v:=cv) hlo (by omega))
        clear KY5 KZ5 BZ5 LO5 hcv
        go_wp2_with fail
        go_region
        all_goals
         go_wp2
         go_roundw
         case rel=>exact ⟨k + 1,_,by have:=HLT.out; omega,by go_num,LO6.out,KZ6.out,BZ6.out.drew⟩
         case measure=>simp [intOf]; have:=HLT.out; omega
       ·have q6:min cv 1=1:=Int.min_eq_right (by omega)
        have q7:1<cv:=by omega
        clear h2
        have KZ6:=Lib.hid (KZ5.kSet (p:=tt) (q:=fr) (by omega) (by omega) (by omega) (by omega) 1)
        have BZ6:=Lib.hid (BZ5.setCell (p:=⟨w.heap.size,tt.toNat * 17 + fr.toNat,none⟩) (Nat.le_refl _) (.int .i64 1))
        have LO6:=Lib.hid (LO5.put (a:=tt) (b:=fr) (v:=1) hup (by omega))
        clear KY5 KZ5 BZ5 LO5 hcv
        go_wp2_with fail
        go_region
        all_goals
         go_wp2
         go_roundw
         case rel=>exact ⟨k + 1,_,by have:=HLT.out; omega,by go_num,LO6.out,KZ6.out,BZ6.out.drew⟩
         case measure=>simp [intOf]; have:=HLT.out; omega
      ·have q5:decide (y<am)=false:=by simpa using h2
       have KZ6:=Lib.hid KZ5
       have BZ6:=Lib.hid BZ5
       have LO6:=Lib.hid LO5
       clear h2 KY5 KZ5 BZ5 LO5
       go_wp2_with fail
       go_roundw
       case rel=>exact ⟨k + 1,_,by have:=HLT.out; omega,by go_num,LO6.out,KZ6.out,BZ6.out⟩
       case measure=>simp [intOf]; have:=HLT.out; omega
    ·have hkn:k=m.length:=by omega
     subst hkn
     have qk:decide (((m.length:Nat):Int)<(m.length:Int))=false:=by simp
     have KX:=Lib.hid KX0.out
     clear KX0
     go_wp2_with fail
     go_loopw [11] (CoLow w far) (fun i _=>17 - (intOf i).toNat)
     case atStart=>exact ⟨1,c,by omega,by omega,rfl,LO.out,KX.out,BB.out⟩
     case round =>
      clear KX BB LO
      obtain ⟨m1,c,h1m,h2m,rfl,hlow,hX,hB⟩:=hrel
      have LO:=Lib.hid hlow
      have KX:=Lib.hid hX
      have BB:=Lib.hid hB
      clear hlow hX hB
      by_cases hm:m1<17
      ·go_wp2_with fail
       go_loopw [12] (CoLow w far) (fun i _=>17 - (intOf i).toNat)
       case atStart=>exact ⟨1,c,by omega,by omega,rfl,LO.out,KX.out,BB.out⟩
       case round =>
        clear KX BB LO
        obtain ⟨p,c,p1,p2,rfl,hlow,hX,hB⟩:=hrel
        have LO:=Lib.hid hlow
        have KX:=Lib.hid hX
        have BB:=Lib.hid hB
        clear hlow hX hB
        by_cases hp:p<17
        ·go_wp2_with fail
         go_loopw [13] (CoLow w far) (fun i _=>17 - (intOf i).toNat)
         case atStart=>exact ⟨1,c,by omega,by omega,rfl,LO.out,KX.out,BB.out⟩
         case round =>
          clear KX BB LO
          obtain ⟨q,c,r1,r2,rfl,hlow,hX,hB⟩:=hrel
          have LO:=Lib.hid hlow
          have KX:=Lib.hid hX
          have BB:=Lib.hid hB
          have hxl:=hX.lt
          clear hX hB
          by_cases hq:q<17
          ·have d1:=KX.out.kAt (p:=p) (q:=m1) (by omega) (by omega) (by omega) (by omega)
           have d2:=KX.out.kAt (p:=m1) (q:=q) (by omega) (by omega) (by omega) (by omega)
           have d3:=KX.out.kAt (p:=p) (q:=q) (by omega) (by omega) (by omega) (by omega)
           have f3:=KX.out.frozen (p.toNat * 17 + q.toNat)
           obtain ⟨b1,b2⟩:=hlow.low p m1
           obtain ⟨b3,b4⟩:=hlow.low m1 q
           obtain ⟨b5,b6⟩:=hlow.low p q
           have l1:=hlow.lo p m1
           have l2:=hlow.lo m1 q
           have l3:=hlow.lo p q
           have ba:=hlow.bd p
           have bq:=hlow.bd q
           clear hlow
           obtain ⟨y,hy⟩:∃ y,c p m1=y:=⟨_,rfl⟩
           obtain ⟨z,hz⟩:∃ z,c m1 q=z:=⟨_,rfl⟩
           obtain ⟨x,hx⟩:∃ x,c p q=x:=⟨_,rfl⟩
           rw [hy] at d1 b1 b2 l1
           rw [hz] at d2 b3 b4 l2
           rw [hx] at d3 b5 b6 l3
           clear hy hz hx
           by_cases h1:y<1048576
           ·have q1:decide (y<1048576)=true:=by simpa using h1
            by_cases h2:z<1048576
            ·have q2:decide (z<1048576)=true:=by simpa using h2
             rcases Int.lt_or_le (y + z) x with hmn | hmn
             ·have hmx:(-1048576:Int)<y + z:=by omega
              have N3:=Lib.hid (LO.out.put (a:=p) (b:=q) (v:=y + z) (by omega) (by omega))
              have K3:=Lib.hid (KX.out.kSet (p:=p) (q:=q) (by omega) (by omega) (by omega) (by omega) (y + z))
              have B3:=Lib.hid (BB.out.setCell (p:=⟨w.heap.size,p.toNat * 17 + q.toNat,none⟩) (Nat.le_refl _) (.int .i64 (y + z)))
              clear h1 h2 l1 l2 l3 ba bq
              go_wp2_with fail
              go_region
              all_goals
               go_wp2
               go_roundw
               case rel =>
                have hm:max (-1048576:Int) (min x (y + z))=y + z:=by omega
                exact ⟨q + 1,_,by omega,by omega,by go_num,N3.out,by (try rw [hm]); exact K3.out,by (try rw [hm]); exact ⟨B3.out.os,B3.out.tape,B3.out.output,B3.out.size,B3.out.block⟩⟩
               case measure=>simp [intOf]; omega
             ·have hmx:(-1048576:Int)<x:=by omega
              have N3:=Lib.hid (LO.out.put (a:=p) (b:=q) (v:=x) l3 (by omega))
              have K3:=Lib.hid (KX.out.kSet (p:=p) (q:=q) (by omega) (by omega) (by omega) (by omega) x)
              have B3:=Lib.hid (BB.out.setCell (p:=⟨w.heap.size,p.toNat * 17 + q.toNat,none⟩) (Nat.le_refl _) (.int .i64 x))
              clear h1 h2 l1 l2 l3 ba bq
              go_wp2_with fail
              go_region
              all_goals
               go_wp2
               go_roundw
               case rel =>
                have hm:max (-1048576:Int) (min x (y + z))=x:=by omega
                exact ⟨q + 1,_,by omega,by omega,by go_num,N3.out,by (try rw [hm]); exact K3.out,by (try rw [hm]); exact ⟨B3.out.os,B3.out.tape,B3.out.output,B3.out.size,B3.out.block⟩⟩
               case measure=>simp [intOf]; omega
            ·have q2:decide (z<1048576)=false:=by simpa using h2
             clear h1 h2 l1 l2 l3 ba bq
             go_wp2_with fail
             go_roundw
             case rel=>exact ⟨q + 1,c,by omega,by omega,by go_num,LO.out,KX.out,BB.out⟩
             case measure=>simp [intOf]; omega
           ·have q1:decide (y<1048576)=false:=by simpa using h1
            clear h1 l1 l2 l3 ba bq
            go_wp2_with fail
            go_roundw
            case rel=>exact ⟨q + 1,c,by omega,by omega,by go_num,LO.out,KX.out,BB.out⟩
            case measure=>simp [intOf]; omega
          ·clear hlow
           go_wp2_with fail
           go_roundw
           case rel=>exact ⟨p + 1,c,by omega,by omega,by go_num,LO.out,KX.out,BB.out⟩
           case measure=>simp [intOf]; omega
        ·go_wp2_with fail
         go_roundw
         case rel=>exact ⟨m1 + 1,c,by omega,by omega,by go_num,LO.out,KX.out,BB.out⟩
         case measure=>simp [intOf]; omega
      ·go_wp2_with fail
       go_loopw [14] (CoLow w far) (fun i _=>17 - (intOf i).toNat)
       case atStart=>exact ⟨1,c,by omega,by omega,rfl,LO.out,KX.out,BB.out⟩
       case round =>
        clear KX BB LO
        obtain ⟨p,c,p1,p2,rfl,hlow,hX,hB⟩:=hrel
        have LO:=Lib.hid hlow
        have KX:=Lib.hid hX
        have BB:=Lib.hid hB
        have hxl:=hX.lt
        clear hX hB
        by_cases hp:p<17
        ·have d1:=KX.out.kAt (p:=p) (q:=p) (by omega) (by omega) (by omega) (by omega)
         have hs:=hlow.lo p p
         obtain ⟨y,hy⟩:∃ y,c p p=y:=⟨_,rfl⟩
         rw [hy] at d1 hs
         have q1:decide (y<0)=false:=by simp; omega
         clear hy hs hlow
         go_wp2_with fail
         go_roundw
         case rel=>exact ⟨p + 1,c,by omega,by omega,by go_num,LO.out,KX.out,BB.out⟩
         case measure=>simp [intOf]; omega
        ·clear hlow
         go_wp2_with fail
         go_ret
         exact ⟨rfl,BB.out⟩
end Go.Proofs.YtlbjjkbppbmihaaGreat
namespace Go.Proofs.YtlbjjkbppbmihaaGreat
open Go.RowKit
theorem SlIn.debts {w:World} {a:Option Addr} {len cap:Nat} {xs:List Fw} (h:SlIn Fw.vals 3 Fw.Fits w a len cap xs):DebtsIn w a xs:=by
 obtain ⟨_,hl,_,_,_,h3⟩:=h
 intro h0
 obtain ⟨b,off,ha,hb,hc⟩:=h3 (by omega)
 refine ⟨b,off,ha,hb,fun m hm=>?_⟩
 rw [dbt_get hm]
 exact ⟨hc m hm 0 _ rfl,hc m hm 1 _ rfl,hc m hm 2 _ rfl⟩
end Go.Proofs.YtlbjjkbppbmihaaGreat
namespace Go.Proofs.YtlbjjkbppbmihaaGreat
def sumL (g:Fw→Int):List Fw→Int
 | []=>0
 | x::r=>g x + sumL g r
theorem sumL_append (g:Fw→Int):∀ (a b:List Fw),sumL g (a++b)=sumL g a + sumL g b
 | [],b=>by show _=0 + _; rw [List.nil_append]; omega
 | x::a,b=>by
  show g x + sumL g (a++b)=g x + sumL g a + sumL g b
  rw [sumL_append g a b]
  omega
theorem sumN_take (g:Fw→Int) (l:List Fw):∀ n,n≤l.length→sumN (fun i=>g (dbt l i)) n=sumL g (l.take n)
 | 0,_=>by simp [sumN,sumL]
 | n + 1,h=>by
  show sumN (fun i=>g (dbt l i)) n + g (dbt l n)=_
  rw [sumN_take g l n (by omega),List.take_succ_eq_append_getElem (by omega),sumL_append,dbt_get (by omega)]
  show _=_ + (g _ + 0)
  omega
theorem sumN_list (g:Fw→Int) (l:List Fw):sumN (fun i=>g (dbt l i)) l.length=sumL g l:=by
 rw [sumN_take g l _ (Nat.le_refl _),List.take_length]
theorem leftN_next2 (l:List Fw) (L:Nat→Int) (k:Nat):leftN l L (k + 1)=leftN l L k++if 0<L k then [⟨(dbt l k).fr,(dbt l k).tt,L k⟩] else []:=rfl
theorem sumL_left (g:Fw→Int) (l:List Fw) (L:Nat→Int):∀ n,sumL g (leftN l L n)=sumN (fun i=>if 0<L i then g ⟨(dbt l i).fr,(dbt l i).tt,L i⟩ else 0) n
 | 0=>rfl
 | n + 1=>by
  rw [leftN_next2,sumL_append,sumL_left g l L n]
  show _=sumN _ n + if 0<L n then g ⟨(dbt l n).fr,(dbt l n).tt,L n⟩ else 0
  split
  ·show _ + (g _ + 0)=_; omega
  ·show _ + 0=_; omega
theorem leftN_mem {l:List Fw} {L:Nat→Int} {x:Fw}:∀ n,x ∈ leftN l L n↔∃ i,i<n∧0<L i∧x=⟨(dbt l i).fr,(dbt l i).tt,L i⟩
 | 0=>by
  constructor
  ·intro h; cases h
  ·rintro ⟨i,h,_⟩; omega
 | n + 1=>by
  rw [leftN_next2,List.mem_append,leftN_mem n]
  constructor
  ·rintro (⟨i,h1,h2⟩ | h)
   ·exact ⟨i,by omega,h2⟩
   ·split at h
    ·rename_i hc
     exact ⟨n,by omega,hc,List.mem_singleton.1 h⟩
    ·cases h
  ·rintro ⟨i,h1,h2,h3⟩
   by_cases hi:i=n
   ·subst hi
    exact .inr (by rw [if_pos h2]; exact List.mem_singleton.2 h3)
   ·exact .inl ⟨i,by omega,h2,h3⟩
theorem dbt_mem {l:List Fw} {i:Nat} (h:i<l.length):dbt l i ∈ l:=by rw [dbt_get h]; exact List.getElem_mem h
theorem mem_dbt {l:List Fw} {x:Fw} (h:x ∈ l):∃ i,i<l.length∧dbt l i=x:=by
 obtain ⟨i,hi,rfl⟩:=List.getElem_of_mem h
 exact ⟨i,hi,dbt_get hi⟩
theorem leftN_sorted {l:List Fw} (hM:MayD l) (L:Nat→Int):∀ n,n≤l.length→(leftN l L n).Pairwise (fun x y=>keyD x<keyD y)
 | 0,_=>List.Pairwise.nil
 | n + 1,h=>by
  rw [leftN_next2,List.pairwise_append]
  refine ⟨leftN_sorted hM L n (by omega),?_,?_⟩
  ·split
   ·exact List.pairwise_singleton _ _
   ·exact List.Pairwise.nil
  ·intro x hx y hy
   obtain ⟨i,hi,_,rfl⟩:=(leftN_mem n).1 hx
   split at hy
   ·rw [List.mem_singleton] at hy
    subst hy
    have:=hM.lt (i:=i) (n - i - 1) (by omega)
    rw [show i + (n - i - 1) + 1=n by omega] at this
    exact this
   ·cases hy
theorem left_at {l:List Fw} {L:Nat→Int} {i:Nat} (hi:i<(leftL l L).length):∃ j,j<l.length∧0<L j∧dbt (leftL l L) i=⟨(dbt l j).fr,(dbt l j).tt,L j⟩:=(leftN_mem l.length).1 (dbt_mem hi)
theorem left_may {l:List Fw} {L:Nat→Int} (hM:MayD l) (hL:RdOk l L):MayD (leftL l L):=by
 refine ⟨fun i hi=>?_,fun i hi=>?_⟩
 ·obtain ⟨j,hj,h1,h2⟩:=left_at hi
  rw [h2]
  obtain ⟨a1,a2,a3,a4,a5⟩:=hM.ok j hj
  have h3:=hL.hi j hj
  exact ⟨a1,a2,a3,by show 1≤L j; omega,by show L j≤1099511627776; omega⟩
 ·have h:=List.pairwise_iff_getElem.1 (leftN_sorted hM L l.length (Nat.le_refl _)) i (i + 1) (by show i<(leftL l L).length; omega) hi (by omega)
  rw [dbt_get (by omega),dbt_get hi]
  exact h
theorem ofN_none {l:List Fw} {a b:Int} (h:∀ i,i<l.length→¬ ((dbt l i).fr=a∧(dbt l i).tt=b)):∀ k,k≤l.length→ofN l a b k=0
 | 0,_=>rfl
 | k + 1,hk=>by
  show (if (dbt l (l.length - (k + 1))).fr=a∧(dbt l (l.length - (k + 1))).tt=b then _ else ofN l a b k)=0
  rw [if_neg (h _ (by omega)),ofN_none h k (by omega)]
theorem ofN_at {l:List Fw} (hM:MayD l) {i:Nat} (hi:i<l.length):∀ k,k≤l.length→l.length - k≤i→ofN l (dbt l i).fr (dbt l i).tt k=(dbt l i).am
 | 0,_,h=>by omega
 | k + 1,hk,h=>by
  show (if (dbt l (l.length - (k + 1))).fr=(dbt l i).fr∧(dbt l (l.length - (k + 1))).tt=(dbt l i).tt then (dbt l (l.length - (k + 1))).am else ofN l (dbt l i).fr (dbt l i).tt k)=_
  by_cases hc:(dbt l (l.length - (k + 1))).fr=(dbt l i).fr∧(dbt l (l.length - (k + 1))).tt=(dbt l i).tt
  ·rw [if_pos hc,hM.inj (by omega) hi hc.1 hc.2]
  ·rw [if_neg hc]
   have:l.length - (k + 1)≠i:=fun e=>hc (by rw [e]; exact ⟨rfl,rfl⟩)
   exact ofN_at hM hi k (by omega) (by omega)
theorem ofL_at {l:List Fw} (hM:MayD l) {i:Nat} (hi:i<l.length):ofL l (dbt l i).fr (dbt l i).tt=(dbt l i).am:=ofN_at hM hi l.length (Nat.le_refl _) (by omega)
theorem ofL_left {l:List Fw} {L:Nat→Int} (hM:MayD l) (hL:RdOk l L) {i:Nat} (hi:i<l.length):ofL (leftL l L) (dbt l i).fr (dbt l i).tt=L i:=by
 by_cases h0:0<L i
 ·obtain ⟨j,hj,he⟩:=mem_dbt ((leftN_mem (l:=l) (L:=L) l.length).2 ⟨i,hi,h0,rfl⟩)
  have:=ofL_at (left_may hM hL) hj
  change dbt (leftL l L) j=_ at he
  rw [he] at this
  exact this
 ·have hz:L i=0:=by have:=hL.lo i hi; omega
  rw [hz]
  refine ofN_none (fun j hj hc=>?_) _ (Nat.le_refl _)
  obtain ⟨m,hm,h1,h2⟩:=left_at hj
  rw [h2] at hc
  have:=hM.inj hm hi hc.1 hc.2
  subst this
  exact h0 h1
theorem left_pos {l:List Fw} {L:Nat→Int} (hL:RdOk l L) (p:Int):stL (leftL l L) (leftL l L).length p=posD l L p:=by
 have h1:=sumN_list (fun x=>(if x.tt=p then x.am else 0) - (if x.fr=p then x.am else 0)) (leftL l L)
 have h2:=sumL_left (fun x=>(if x.tt=p then x.am else 0) - (if x.fr=p then x.am else 0)) l L l.length
 refine h1.trans (h2.trans (sumN_congr _ fun i hi=>?_))
 have:=hL.lo i hi
 unfold psD
 dsimp only
 split <;> split <;> split <;> omega
theorem left_fair {l:List Fw} {L:Nat→Int} {k:Nat} (hM:MayD l) (hln:l.length≤240) (h:IsLeast l L k):FairI (leftL l L) l:=by
 have hL:=h.inv.ok
 refine ⟨Nat.le_trans (leftN_len l L l.length) hln,hln,fun i hi=>?_,fun i hi=>?_,fun p=>?_⟩
 ·obtain ⟨j,hj,h1,h2⟩:=left_at hi
  rw [h2]
  obtain ⟨a1,a2,a3,a4,a5⟩:=hM.ok j hj
  unfold inP at a1 a2
  have h3:=hL.hi j hj
  dsimp only
  rw [ofL_at hM hj]
  exact ⟨by omega,by omega,by omega,by omega,by omega⟩
 ·obtain ⟨a1,a2,a3,a4,a5⟩:=hM.ok i hi
  unfold inP at a1 a2
  exact ⟨by omega,by omega,by omega,a5⟩
 ·unfold stW
  rw [left_pos hL,h.inv.pos]
  show posD l (amD l) p - posD l (amD l) p=0
  omega
theorem left_least {l:List Fw} {L:Nat→Int} {k:Nat} (hM:MayD l) (hln:l.length≤240) (h:IsLeast l L k):∃ far,LeastI far (leftL l L) l:=by
 have hL:=h.inv.ok
 obtain ⟨far,hf,hb⟩:=far_bounded (rdE_co l L l.length) (by have:=rdE_len l L l.length; omega) h.done
 refine ⟨far,Nat.le_trans (leftN_len l L l.length) hln,hln,fun i hi=>?_,fun i hi ho=>?_,fun i hi ho=>?_,hb⟩
 ·obtain ⟨a1,a2,_⟩:=hM.ok i hi
  unfold inP at a1 a2
  exact ⟨by omega,by omega⟩
 ·rw [ofL_left hM hL hi] at ho
  have:=hf ⟨(dbt l i).fr,(dbt l i).tt,-1⟩ ((rdE_mem _).2 ⟨i,hi,.inl ⟨ho,rfl⟩⟩) ⟨(hM.ok i hi).1,(hM.ok i hi).2.1⟩
  dsimp only at this
  omega
 ·rw [ofL_left hM hL hi] at ho
  exact hf ⟨(dbt l i).tt,(dbt l i).fr,1⟩ ((rdE_mem _).2 ⟨i,hi,.inr ⟨ho,rfl⟩⟩) ⟨(hM.ok i hi).2.1,(hM.ok i hi).1⟩
theorem left_done {l:List Fw} {L:Nat→Int} {k:Nat} (hM:MayD l) (h:IsLeast l L k):IsLeast (leftL l L) (amD (leftL l L)) 0:=by
 have hL:=h.inv.ok
 have hLM:=left_may hM hL
 obtain ⟨far,hf⟩:=roundW_none h.done
 refine ⟨RdInv.start hLM,round_free (rdE_co _ _ _) far fun e he ho=>?_⟩
 obtain ⟨j,hj,⟨h1,rfl⟩ | ⟨h1,rfl⟩⟩:=(rdE_mem _).1 he
 ·obtain ⟨i,hi,h2,h3⟩:=left_at hj
  rw [h3] at ho ⊢
  exact hf ⟨(dbt l i).fr,(dbt l i).tt,-1⟩ ((rdE_mem _).2 ⟨i,hi,.inl ⟨h2,rfl⟩⟩) ho
 ·exact absurd h1 (by show ¬ (dbt (leftL l L) j).am<(dbt (leftL l L) j).am; omega)
end Go.Proofs.YtlbjjkbppbmihaaGreat
