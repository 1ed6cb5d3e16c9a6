/-
  Pieces of one proof, without what is not wanted: POfD.
-/
import Derived.Test.YtlbjjkbppbmihaaGreatP11
set_option linter.unusedSimpArgs false
set_option linter.unusedVariables false
namespace Go.Proofs.YtlbjjkbppbmihaaGreat
open Go.RowKit
theorem of1_any (x y:Fw) (m:Int) (w:World) :
  Calls Tryz.prog 128 #[.agg #[.int .u8 x.fr,.int .u8 x.tt,.int .i64 x.am,.int .i64 m],.agg #[.int .u8 y.fr,.int .u8 y.tt,.int .i64 y.am]] w fun e w'=>e=.returned (.int .i64 (ordF x y))∧Below w.heap.size w w':=by
 have CO:=Lib.hid (fun w=>dorder_any x y w)
 have B0:=Lib.hid (((Below.refl w.heap.size w).alloc (Nat.le_refl _) (.cells #[.int .u8 x.fr,.int .u8 x.tt,.int .i64 x.am,.int .i64 m] 139)).alloc (by simp) (.cells #[.int .u8 y.fr,.int .u8 y.tt,.int .i64 y.am] 62))
 go_enter Tryz.func128,Tryz.ntmps128
 go_wp2_with fail
 refine (CO.out _).mono ?_
 rintro e w1 ⟨rfl,b1⟩
 have B1:=Lib.hid (B0.out.trans (b1.mono (by simp; omega)))
 clear b1
 go_wp2_with fail
 go_ret
 exact ⟨rfl,B1.out⟩
def BsAt (w:World) (l:List Fw) (key:Int) (i j:Value) (wr:World):Prop :=
 ∃ p q:Nat,p≤q∧q≤l.length∧i=.int .i64 p∧j=.int .i64 q∧Hid (∀ m,m<p→keyD (dbt l m)<key)∧Hid (∀ m,q≤m→m<l.length→key≤keyD (dbt l m))∧Below w.heap.size w wr
def BsPost (l:List Fw) (key:Int) (w:World) (e:Ending) (w':World):Prop :=
 Below w.heap.size w w'∧∃ (p:Nat) (f:Bool),e=.returned (.tuple #[.int .i64 p,.bool f])∧(f=true→p<l.length∧keyD (dbt l p)=key)∧(f=false→∀ m,m<l.length→keyD (dbt l m)≠key)
set_option maxHeartbeats 4000000 in
set_option maxRecDepth 100000 in
theorem bs_any {w:World} {base:Nat} {c:Value} {l:List Fw} {L:Nat→Int} (hO:w.ownsRow base 139 4 c l.length (dcCells l L l.length)) (hM:MayD l) (hln:l.length≤300) (a b:Int) (hb:0≤b∧b≤255) :
  Calls Tryz.prog 127 #[c,.agg #[.int .u8 a,.int .u8 b,.int .i64 0],.func (.func 128) #[] #[]] w (BsPost l (keyD ⟨a,b,0⟩) w):=by
 obtain ⟨ao,cap,rfl,_,_,_,hown⟩:=owns_open hO
 have HO:=Lib.hid hO
 have HW:=Lib.hid hown
 have HM:=Lib.hid hM
 have HB:=Lib.hid hb
 have B0:=Lib.hid ((Below.refl w.heap.size w).alloc (Nat.le_refl _) (.cells #[.int .u8 a,.int .u8 b,.int .i64 0] 62))
 have K0:=Lib.hid (Blk.new w #[.int .u8 a,.int .u8 b,.int .i64 0] 62)
 clear hO hown hM hb
 go_enter Tryz.func127,Tryz.ntmps127
 go_wp2_with fail
 generalize hW0:(w.alloc (.cells #[.int .u8 a,.int .u8 b,.int .i64 0] 62))=w0 at B0 K0 ⊢
 have hsz:w0.heap.size=w.heap.size + 1:=by rw [← hW0]; simp
 have HSZ:=Lib.hid hsz
 clear hW0 hsz
 go_loopw [9,10,11] (fun i j _ wr=>BsAt w0 l (keyD ⟨a,b,0⟩) i j wr) (fun i j _ _=>(intOf j).toNat - (intOf i).toNat)
 case atStart=>exact ⟨0,l.length,by omega,by omega,rfl,rfl,Lib.hid (fun m h=>by omega),Lib.hid (fun m h g=>by omega),Below.refl _ _⟩
 case round =>
  obtain ⟨p,q,hpq,hq,rfl,rfl,HL,HR,hB⟩:=hrel
  have BB:=Lib.hid hB
  clear hB
  by_cases hlt:p<q
  ·have q0:decide ((p:Int)<(q:Int))=true:=by simpa using hlt
   have p0:(0:Int)≤(p:Int):=by omega
   have p1:(p:Int)<(q:Int):=by omega
   have p2:(q:Int)≤300:=by omega
   obtain ⟨m,hm⟩:∃ m,(p + q) / 2=m:=⟨_,rfl⟩
   have hml:m<l.length:=by omega
   have hm1:p≤m:=by omega
   have hm2:m<q:=by omega
   have HPQ:=Lib.hid hm
   obtain ⟨g,rfl,_,hgw,_,_⟩:=HW.out (by omega)
   obtain ⟨e0,e1,e2,e3⟩:=dc_get HO.out hml
   have hg0:g<w0.heap.size:=by have:=HSZ.out; omega
   have BW:=Lib.hid (B0.out.trans (BB.out.mono (by have:=HSZ.out; omega)))
   have d0:=(BW.out.cell (p:=⟨g,m * 4,none⟩) hgw).trans e0
   have d1:=(BW.out.cell (p:=⟨g,m * 4 + 1,none⟩) hgw).trans e1
   have d2:=(BW.out.cell (p:=⟨g,m * 4 + 2,none⟩) hgw).trans e2
   have d3:=(BW.out.cell (p:=⟨g,m * 4 + 3,none⟩) hgw).trans e3
   have hbr:g<wr.heap.size:=Nat.lt_of_lt_of_le hg0 BB.out.size
   have hok:=HM.out.ok m hml
   have HK:=Lib.hid (ordF_key (a:=dbt l m) (b:=⟨a,b,0⟩) ⟨by have:=hok.2.1.1; omega,by have:=hok.2.1.2; omega⟩ HB.out)
   have CO:=Lib.hid (fun w=>of1_any ⟨(dbt l m).fr,(dbt l m).tt,L m⟩ ⟨a,b,0⟩ ((dbt l m).am - L m) w)
   rw [show ordF ⟨(dbt l m).fr,(dbt l m).tt,L m⟩ ⟨a,b,0⟩=ordF (dbt l m) ⟨a,b,0⟩ from rfl] at CO
   dsimp only at CO
   have KW:=Lib.hid (K0.out.below BB.out K0.out.lt)
   obtain ⟨oo,hoo⟩:∃ oo,ordF (dbt l m) ⟨a,b,0⟩=oo:=⟨_,rfl⟩
   rw [hoo] at HK CO
   obtain ⟨fr,hfr⟩:∃ x,(dbt l m).fr=x:=⟨_,rfl⟩
   obtain ⟨tt,htt⟩:∃ x,(dbt l m).tt=x:=⟨_,rfl⟩
   obtain ⟨tk,htk⟩:∃ x,(dbt l m).am - L m=x:=⟨_,rfl⟩
   obtain ⟨n,hn⟩:∃ x,L m=x:=⟨_,rfl⟩
   rw [hfr] at d0 CO
   rw [htt] at d1 CO
   rw [htk] at d3 CO
   rw [hn] at d2 CO
   obtain ⟨N,hN⟩:∃ N,l.length=N:=⟨_,rfl⟩
   have HN:=Lib.hid hN
   have HML:=Lib.hid hml
   rw [hN] at hml ⊢
   have i0:(0:Int)≤(m:Int):=by omega
   have i1:(m:Int)<(N:Int):=by omega
   have hmi:((p:Int) + (q:Int)) / 2=(m:Int):=by omega
   have HMI:=Lib.hid hmi
   clear e0 e1 e2 e3 hok hfr htt htk hn hN hm hmi hoo hgw
   go_wp2_with fail
   rw [HMI.out]
   by_cases hless:keyD (dbt l m)<keyD ⟨a,b,0⟩
   ·have ho:oo = -1:=by rw [HK.out]; unfold cmpD; rw [if_pos hless]
    have NL:Hid (∀ x,x<m + 1→keyD (dbt l x)<keyD ⟨a,b,0⟩):=Lib.hid (fun x hx=>by
     by_cases e:x=m
     ·subst e; exact hless
     ·have:=HM.out.lt (i:=x) (m - x - 1) (by have:=HML.out; omega)
      rw [show x + (m - x - 1) + 1=m by omega] at this
      omega)
    rw [ho] at CO
    clear ho hless HK
    -- A
    refine region_still (by kernel_rfl) [(.func (.func 128) #[] #[]),(.slice (some ⟨g,0,none⟩) N cap),(.int .i64 (m:Nat)),(.pointer (some ⟨g,m * 4,none⟩)),(.agg #[.int .u8 fr,.int .u8 tt,.int .i64 n,.int .i64 tk]),(.agg #[.int .u8 a,.int .u8 b,.int .i64 0]),(.int .i64 (-1)),(.bool true)]
     (fun w'=>Below wr.heap.size wr w') (by kernel_rfl) (Below.refl _ _).drew ?_
    intro af haf
    simp only [List.toList_toArray,List.append_eq,List.cons_append,List.nil_append,puts,Act.put,List.getD_cons_zero,List.getD_cons_succ,List.setIfInBounds_toArray,List.set_cons_succ,List.set_cons_zero] at haf
    subst haf
    refine ⟨?_,?_⟩
    ·simp only [List.toList_toArray,List.append_eq,List.cons_append,List.nil_append,EachTo]
     refine ⟨?_,?_,?_,?_,?_,?_,?_,?_,trivial⟩
     ·intro w' hS
      refine OpTo.plain ?_ ?_
      exact rfl
      have HS:=Lib.hid hS
      clear hS
      go_wp2_with fail
      all_goals first | exact HS.out | exact ⟨rfl,HS.out⟩ | rfl | exact ⟨by omega,HS.out⟩
     ·intro w' hS
      refine OpTo.plain ?_ ?_
      exact rfl
      have HS:=Lib.hid hS
      clear hS
      go_wp2_with fail
      all_goals first | exact HS.out | exact ⟨rfl,HS.out⟩ | rfl | exact ⟨by omega,HS.out⟩
     ·intro w' hS
      refine OpTo.plain ?_ ?_
      exact rfl
      have HS:=Lib.hid hS
      clear hS
      go_wp2_with fail
      all_goals first | exact HS.out | exact ⟨rfl,HS.out⟩ | rfl | exact ⟨by omega,HS.out⟩
     ·intro w' hS
      refine OpTo.plain ?_ ?_
      exact rfl
      have HS:=Lib.hid hS
      clear hS
      go_wp2_with fail
      all_goals first | exact HS.out | exact ⟨rfl,HS.out⟩ | rfl | exact ⟨by omega,HS.out⟩
     ·intro w' hS
      refine OpTo.plain ?_ ?_
      exact rfl
      have hl:=Nat.lt_of_lt_of_le hbr hS.size
      have r0:=(hS.cell (p:=⟨g,m * 4,none⟩) hbr).trans d0
      have r1:=(hS.cell (p:=⟨g,m * 4 + 1,none⟩) hbr).trans d1
      have r2:=(hS.cell (p:=⟨g,m * 4 + 2,none⟩) hbr).trans d2
      have r3:=(hS.cell (p:=⟨g,m * 4 + 3,none⟩) hbr).trans d3
      have HS:=Lib.hid hS
      clear hS
      go_wp2_with fail
      all_goals first | exact HS.out | exact ⟨rfl,HS.out⟩ | rfl | exact ⟨by omega,HS.out⟩
     ·intro w' hS
      refine OpTo.plain ?_ ?_
      exact rfl
      have d0_0:=(KW.out.below hS KW.out.lt).cell 0
      have d0_1:=(KW.out.below hS KW.out.lt).cell 1
      have d0_2:=(KW.out.below hS KW.out.lt).cell 2
      simp at d0_0 d0_1 d0_2
      have HS:=Lib.hid hS
      clear hS
      go_wp2_with fail
      all_goals first | exact HS.out | exact ⟨rfl,HS.out⟩ | rfl | exact ⟨by omega,HS.out⟩
     ·intro w' hS
      refine OpTo.plain ?_ ?_
      exact rfl
      have HS:=Lib.hid hS
      clear hS
      go_wp2_with fail
      refine (CO.out w').mono ?_
      rintro e w'' ⟨rfl,hb2⟩
      exact ⟨rfl,andB HS.out hb2⟩
     ·intro w' hS
      refine OpTo.plain ?_ ?_
      exact rfl
      have HS:=Lib.hid hS
      clear hS
      go_wp2_with fail
      all_goals first | exact HS.out | exact ⟨rfl,HS.out⟩ | rfl | exact ⟨by omega,HS.out⟩
    -- END
    intro w2 hb
    have B2:=Lib.hid (andB BB.out hb)
    clear hb
    go_wp2_with fail
    exact ⟨⟨m + 1,q,by omega,by omega,by go_num,rfl,NL,HR,B2.out⟩,by simp [intOf]; omega⟩
   ·have ho:0≤oo:=by rw [HK.out]; unfold cmpD; rw [if_neg hless]; split <;> decide
    have ho2:decide (oo<0)=false:=by simp; omega
    have NR:Hid (∀ x,m≤x→x<l.length→keyD ⟨a,b,0⟩≤keyD (dbt l x)):=Lib.hid (fun x hx hxl=>by
     by_cases e:x=m
     ·subst e; omega
     ·have:=HM.out.lt (i:=m) (x - m - 1) (by omega)
      rw [show m + (x - m - 1) + 1=x by omega] at this
      omega)
    clear ho hless HK
    -- B
    refine region_still (by kernel_rfl) [(.func (.func 128) #[] #[]),(.slice (some ⟨g,0,none⟩) N cap),(.int .i64 (m:Nat)),(.pointer (some ⟨g,m * 4,none⟩)),(.agg #[.int .u8 fr,.int .u8 tt,.int .i64 n,.int .i64 tk]),(.agg #[.int .u8 a,.int .u8 b,.int .i64 0]),(.int .i64 oo),(.bool false)]
     (fun w'=>Below wr.heap.size wr w') (by kernel_rfl) (Below.refl _ _).drew ?_
    intro af haf
    simp only [List.toList_toArray,List.append_eq,List.cons_append,List.nil_append,puts,Act.put,List.getD_cons_zero,List.getD_cons_succ,List.setIfInBounds_toArray,List.set_cons_succ,List.set_cons_zero] at haf
    subst haf
    refine ⟨?_,?_⟩
    ·simp only [List.toList_toArray,List.append_eq,List.cons_append,List.nil_append,EachTo]
     refine ⟨?_,?_,?_,?_,?_,?_,?_,?_,trivial⟩
     ·intro w' hS
      refine OpTo.plain ?_ ?_
      exact rfl
      have HS:=Lib.hid hS
      clear hS
      go_wp2_with fail
      all_goals first | exact HS.out | exact ⟨rfl,HS.out⟩ | rfl | exact ⟨by omega,HS.out⟩
     ·intro w' hS
      refine OpTo.plain ?_ ?_
      exact rfl
      have HS:=Lib.hid hS
      clear hS
      go_wp2_with fail
      all_goals first | exact HS.out | exact ⟨rfl,HS.out⟩ | rfl | exact ⟨by omega,HS.out⟩
     ·intro w' hS
      refine OpTo.plain ?_ ?_
      exact rfl
      have HS:=Lib.hid hS
      clear hS
      go_wp2_with fail
      all_goals first | exact HS.out | exact ⟨rfl,HS.out⟩ | rfl | exact ⟨by omega,HS.out⟩
     ·intro w' hS
      refine OpTo.plain ?_ ?_
      exact rfl
      have HS:=Lib.hid hS
      clear hS
      go_wp2_with fail
      all_goals first | exact HS.out | exact ⟨rfl,HS.out⟩ | rfl | exact ⟨by omega,HS.out⟩
     ·intro w' hS
      refine OpTo.plain ?_ ?_
      exact rfl
      have hl:=Nat.lt_of_lt_of_le hbr hS.size
      have r0:=(hS.cell (p:=⟨g,m * 4,none⟩) hbr).trans d0
      have r1:=(hS.cell (p:=⟨g,m * 4 + 1,none⟩) hbr).trans d1
      have r2:=(hS.cell (p:=⟨g,m * 4 + 2,none⟩) hbr).trans d2
      have r3:=(hS.cell (p:=⟨g,m * 4 + 3,none⟩) hbr).trans d3
      have HS:=Lib.hid hS
      clear hS
      go_wp2_with fail
      all_goals first | exact HS.out | exact ⟨rfl,HS.out⟩ | rfl | exact ⟨by omega,HS.out⟩
     ·intro w' hS
      refine OpTo.plain ?_ ?_
      exact rfl
      have d0_0:=(KW.out.below hS KW.out.lt).cell 0
      have d0_1:=(KW.out.below hS KW.out.lt).cell 1
      have d0_2:=(KW.out.below hS KW.out.lt).cell 2
      simp at d0_0 d0_1 d0_2
      have HS:=Lib.hid hS
      clear hS
      go_wp2_with fail
      all_goals first | exact HS.out | exact ⟨rfl,HS.out⟩ | rfl | exact ⟨by omega,HS.out⟩
     ·intro w' hS
      refine OpTo.plain ?_ ?_
      exact rfl
      have HS:=Lib.hid hS
      clear hS
      go_wp2_with fail
      refine (CO.out w').mono ?_
      rintro e w'' ⟨rfl,hb2⟩
      exact ⟨rfl,andB HS.out hb2⟩
     ·intro w' hS
      refine OpTo.plain ?_ ?_
      exact rfl
      have HS:=Lib.hid hS
      clear hS
      go_wp2_with fail
      all_goals first | exact HS.out | exact ⟨rfl,HS.out⟩ | rfl | exact ⟨by omega,HS.out⟩
    -- END
    intro w2 hb
    have B2:=Lib.hid (andB BB.out hb)
    clear hb
    go_wp2_with fail
    exact ⟨⟨p,m,by omega,by rw [HN.out]; omega,rfl,rfl,HL,NR,B2.out⟩,by simp [intOf]; omega⟩
  ·have hpe:p=q:=by omega
   subst hpe
   have q0:decide ((p:Int)<(p:Int))=false:=by simp
   by_cases hml:p<l.length
   ·obtain ⟨m,hm⟩:∃ m,p=m:=⟨_,rfl⟩
    subst hm
    obtain ⟨g,rfl,_,hgw,_,_⟩:=HW.out (by omega)
    obtain ⟨e0,e1,e2,e3⟩:=dc_get HO.out hml
    have hg0:g<w0.heap.size:=by have:=HSZ.out; omega
    have BW:=Lib.hid (B0.out.trans (BB.out.mono (by have:=HSZ.out; omega)))
    have d0:=(BW.out.cell (p:=⟨g,p * 4,none⟩) hgw).trans e0
    have d1:=(BW.out.cell (p:=⟨g,p * 4 + 1,none⟩) hgw).trans e1
    have d2:=(BW.out.cell (p:=⟨g,p * 4 + 2,none⟩) hgw).trans e2
    have d3:=(BW.out.cell (p:=⟨g,p * 4 + 3,none⟩) hgw).trans e3
    have hbr:g<wr.heap.size:=Nat.lt_of_lt_of_le hg0 BB.out.size
    have hok:=HM.out.ok p hml
    have HK:=Lib.hid (ordF_key (a:=dbt l p) (b:=⟨a,b,0⟩) ⟨by have:=hok.2.1.1; omega,by have:=hok.2.1.2; omega⟩ HB.out)
    have CO:=Lib.hid (fun w=>of1_any ⟨(dbt l p).fr,(dbt l p).tt,L p⟩ ⟨a,b,0⟩ ((dbt l p).am - L p) w)
    rw [show ordF ⟨(dbt l p).fr,(dbt l p).tt,L p⟩ ⟨a,b,0⟩=ordF (dbt l p) ⟨a,b,0⟩ from rfl] at CO
    dsimp only at CO
    have KW:=Lib.hid (K0.out.below BB.out K0.out.lt)
    obtain ⟨oo,hoo⟩:∃ oo,ordF (dbt l p) ⟨a,b,0⟩=oo:=⟨_,rfl⟩
    rw [hoo] at HK CO
    obtain ⟨fr,hfr⟩:∃ x,(dbt l p).fr=x:=⟨_,rfl⟩
    obtain ⟨tt,htt⟩:∃ x,(dbt l p).tt=x:=⟨_,rfl⟩
    obtain ⟨tk,htk⟩:∃ x,(dbt l p).am - L p=x:=⟨_,rfl⟩
    obtain ⟨n,hn⟩:∃ x,L p=x:=⟨_,rfl⟩
    rw [hfr] at d0 CO
    rw [htt] at d1 CO
    rw [htk] at d3 CO
    rw [hn] at d2 CO
    obtain ⟨N,hN⟩:∃ N,l.length=N:=⟨_,rfl⟩
    have HN:=Lib.hid hN
    have HML:=Lib.hid hml
    rw [hN] at hml ⊢
    have i0:(0:Int)≤(p:Int):=by omega
    have i1:(p:Int)<(N:Int):=by omega
    have i2:decide ((p:Int)<(N:Int))=true:=by simpa using hml
    clear e0 e1 e2 e3 hok hfr htt htk hn hN hoo hgw
    by_cases heq:keyD (dbt l p)=keyD ⟨a,b,0⟩
    ·have ho:oo=0:=by rw [HK.out,heq]; unfold cmpD; rw [if_neg (by omega),if_neg (by omega)]
     have HEQ:=Lib.hid heq
     rw [ho] at CO
     clear ho heq HK
     go_wp2_with fail
     -- C
     refine region_still (by kernel_rfl) [(.int .i64 (p:Nat)),(.int .i64 (p:Nat)),(.int .i64 (N:Nat)),(.bool true),(.bool true),(.func (.func 128) #[] #[]),(.slice (some ⟨g,0,none⟩) N cap),(.int .i64 (p:Nat)),(.pointer (some ⟨g,p * 4,none⟩)),(.agg #[.int .u8 fr,.int .u8 tt,.int .i64 n,.int .i64 tk]),(.agg #[.int .u8 a,.int .u8 b,.int .i64 0]),(.int .i64 0),(.bool true),(.bool true),(.int .i64 (p:Nat)),(.bool true)]
      (fun w'=>Below wr.heap.size wr w') (by kernel_rfl) (Below.refl _ _).drew ?_
     intro af haf
     simp only [List.toList_toArray,List.append_eq,List.cons_append,List.nil_append,puts,Act.put,List.getD_cons_zero,List.getD_cons_succ,List.setIfInBounds_toArray,List.set_cons_succ,List.set_cons_zero] at haf
     subst haf
     refine ⟨?_,?_⟩
     ·simp only [List.toList_toArray,List.append_eq,List.cons_append,List.nil_append,EachTo]
      refine ⟨?_,?_,?_,?_,?_,?_,?_,?_,?_,?_,?_,?_,?_,?_,?_,?_,trivial⟩
      ·intro w' hS
       refine OpTo.plain ?_ ?_
       exact rfl
       have HS:=Lib.hid hS
       clear hS
       go_wp2_with fail
       all_goals first | exact HS.out | exact ⟨rfl,HS.out⟩ | rfl | exact ⟨by omega,HS.out⟩
      ·intro w' hS
       refine OpTo.plain ?_ ?_
       exact rfl
       have HS:=Lib.hid hS
       clear hS
       go_wp2_with fail
       all_goals first | exact HS.out | exact ⟨rfl,HS.out⟩ | rfl | exact ⟨by omega,HS.out⟩
      ·intro w' hS
       refine OpTo.plain ?_ ?_
       exact rfl
       have HS:=Lib.hid hS
       clear hS
       go_wp2_with fail
       all_goals first | exact HS.out | exact ⟨rfl,HS.out⟩ | rfl | exact ⟨by omega,HS.out⟩
      ·intro w' hS
       refine OpTo.plain ?_ ?_
       exact rfl
       have HS:=Lib.hid hS
       clear hS
       go_wp2_with fail
       all_goals first | exact HS.out | exact ⟨rfl,HS.out⟩ | rfl | exact ⟨by omega,HS.out⟩
      ·intro w' hS
       refine OpTo.plain ?_ ?_
       exact rfl
       have HS:=Lib.hid hS
       clear hS
       go_wp2_with fail
       all_goals first | exact HS.out | exact ⟨rfl,HS.out⟩ | rfl | exact ⟨by omega,HS.out⟩
      ·intro w' hS
       refine OpTo.wanted ?_ ?_
       kernel_rfl
       have HS:=Lib.hid hS
       clear hS
       go_wp2_with fail
       all_goals first | exact HS.out | exact ⟨rfl,HS.out⟩ | rfl | exact ⟨by omega,HS.out⟩
      ·intro w' hS
       refine OpTo.wanted ?_ ?_
       kernel_rfl
       have HS:=Lib.hid hS
       clear hS
       go_wp2_with fail
       all_goals first | exact HS.out | exact ⟨rfl,HS.out⟩ | rfl | exact ⟨by omega,HS.out⟩
      ·intro w' hS
       refine OpTo.wanted ?_ ?_
       kernel_rfl
       have HS:=Lib.hid hS
       clear hS
       go_wp2_with fail
       all_goals first | exact HS.out | exact ⟨rfl,HS.out⟩ | rfl | exact ⟨by omega,HS.out⟩
      ·intro w' hS
       refine OpTo.wanted ?_ ?_
       kernel_rfl
       have HS:=Lib.hid hS
       clear hS
       go_wp2_with fail
       all_goals first | exact HS.out | exact ⟨rfl,HS.out⟩ | rfl | exact ⟨by omega,HS.out⟩
      ·intro w' hS
       refine OpTo.wanted ?_ ?_
       kernel_rfl
       have hl:=Nat.lt_of_lt_of_le hbr hS.size
       have r0:=(hS.cell (p:=⟨g,p * 4,none⟩) hbr).trans d0
       have r1:=(hS.cell (p:=⟨g,p * 4 + 1,none⟩) hbr).trans d1
       have r2:=(hS.cell (p:=⟨g,p * 4 + 2,none⟩) hbr).trans d2
       have r3:=(hS.cell (p:=⟨g,p * 4 + 3,none⟩) hbr).trans d3
       have HS:=Lib.hid hS
       clear hS
       go_wp2_with fail
       all_goals first | exact HS.out | exact ⟨rfl,HS.out⟩ | rfl | exact ⟨by omega,HS.out⟩
      ·intro w' hS
       refine OpTo.wanted ?_ ?_
       kernel_rfl
       have d0_0:=(KW.out.below hS KW.out.lt).cell 0
       have d0_1:=(KW.out.below hS KW.out.lt).cell 1
       have d0_2:=(KW.out.below hS KW.out.lt).cell 2
       simp at d0_0 d0_1 d0_2
       have HS:=Lib.hid hS
       clear hS
       go_wp2_with fail
       all_goals first | exact HS.out | exact ⟨rfl,HS.out⟩ | rfl | exact ⟨by omega,HS.out⟩
      ·intro w' hS
       refine OpTo.wanted ?_ ?_
       kernel_rfl
       have HS:=Lib.hid hS
       clear hS
       go_wp2_with fail
       refine (CO.out w').mono ?_
       rintro e w'' ⟨rfl,hb2⟩
       exact ⟨rfl,andB HS.out hb2⟩
      ·intro w' hS
       refine OpTo.wanted ?_ ?_
       kernel_rfl
       have HS:=Lib.hid hS
       clear hS
       go_wp2_with fail
       all_goals first | exact HS.out | exact ⟨rfl,HS.out⟩ | rfl | exact ⟨by omega,HS.out⟩
      ·intro w' hS
       refine OpTo.plain ?_ ?_
       exact rfl
       have HS:=Lib.hid hS
       clear hS
       go_wp2_with fail
       all_goals first | exact HS.out | exact ⟨rfl,HS.out⟩ | rfl | exact ⟨by omega,HS.out⟩
      ·intro w' hS
       refine OpTo.plain ?_ ?_
       exact rfl
       have HS:=Lib.hid hS
       clear hS
       go_wp2_with fail
       all_goals first | exact HS.out | exact ⟨rfl,HS.out⟩ | rfl | exact ⟨by omega,HS.out⟩
      ·intro w' hS
       refine OpTo.plain ?_ ?_
       exact rfl
       have HS:=Lib.hid hS
       clear hS
       go_wp2_with fail
       all_goals first | exact HS.out | exact ⟨rfl,HS.out⟩ | rfl | exact ⟨by omega,HS.out⟩
     -- END
     intro w2 hb
     have B2:=Lib.hid (B0.out.trans ((andB BB.out hb).mono (by have:=HSZ.out; omega)))
     clear hb
     go_wp2_with fail
     go_ret2
     exact ⟨B2.out,p,true,rfl,fun _=>⟨HML.out,HEQ.out⟩,fun h=>by cases h⟩
    ·have hgt:keyD ⟨a,b,0⟩<keyD (dbt l p):=by have:=HR.out p (Nat.le_refl _) HML.out; omega
     have ho:oo=1:=by rw [HK.out]; unfold cmpD; rw [if_neg (by omega),if_pos hgt]
     have NN:Hid (∀ x,x<l.length→keyD (dbt l x)≠keyD ⟨a,b,0⟩):=Lib.hid (fun x hx=>by
      rcases Nat.lt_trichotomy x p with e | e | e
      ·have:=HL.out x e; omega
      ·subst e; exact heq
      ·have:=HR.out p (Nat.le_refl _) HML.out
       have:=HM.out.lt (i:=p) (x - p - 1) (by omega)
       rw [show p + (x - p - 1) + 1=x by omega] at this
       omega)
     rw [ho] at CO
     clear ho heq HK hgt
     go_wp2_with fail
     -- D
     refine region_still (by kernel_rfl) [(.int .i64 (p:Nat)),(.int .i64 (p:Nat)),(.int .i64 (N:Nat)),(.bool true),(.bool true),(.func (.func 128) #[] #[]),(.slice (some ⟨g,0,none⟩) N cap),(.int .i64 (p:Nat)),(.pointer (some ⟨g,p * 4,none⟩)),(.agg #[.int .u8 fr,.int .u8 tt,.int .i64 n,.int .i64 tk]),(.agg #[.int .u8 a,.int .u8 b,.int .i64 0]),(.int .i64 1),(.bool false),(.bool false),(.int .i64 (p:Nat)),(.bool false)]
      (fun w'=>Below wr.heap.size wr w') (by kernel_rfl) (Below.refl _ _).drew ?_
     intro af haf
     simp only [List.toList_toArray,List.append_eq,List.cons_append,List.nil_append,puts,Act.put,List.getD_cons_zero,List.getD_cons_succ,List.setIfInBounds_toArray,List.set_cons_succ,List.set_cons_zero] at haf
     subst haf
     refine ⟨?_,?_⟩
     ·simp only [List.toList_toArray,List.append_eq,List.cons_append,List.nil_append,EachTo]
      refine ⟨?_,?_,?_,?_,?_,?_,?_,?_,?_,?_,?_,?_,?_,?_,?_,?_,trivial⟩
      ·intro w' hS
       refine OpTo.plain ?_ ?_
       exact rfl
       have HS:=Lib.hid hS
       clear hS
       go_wp2_with fail
       all_goals first | exact HS.out | exact ⟨rfl,HS.out⟩ | rfl | exact ⟨by omega,HS.out⟩
      ·intro w' hS
       refine OpTo.plain ?_ ?_
       exact rfl
       have HS:=Lib.hid hS
       clear hS
       go_wp2_with fail
       all_goals first | exact HS.out | exact ⟨rfl,HS.out⟩ | rfl | exact ⟨by omega,HS.out⟩
      ·intro w' hS
       refine OpTo.plain ?_ ?_
       exact rfl
       have HS:=Lib.hid hS
       clear hS
       go_wp2_with fail
       all_goals first | exact HS.out | exact ⟨rfl,HS.out⟩ | rfl | exact ⟨by omega,HS.out⟩
      ·intro w' hS
       refine OpTo.plain ?_ ?_
       exact rfl
       have HS:=Lib.hid hS
       clear hS
       go_wp2_with fail
       all_goals first | exact HS.out | exact ⟨rfl,HS.out⟩ | rfl | exact ⟨by omega,HS.out⟩
      ·intro w' hS
       refine OpTo.plain ?_ ?_
       exact rfl
       have HS:=Lib.hid hS
       clear hS
       go_wp2_with fail
       all_goals first | exact HS.out | exact ⟨rfl,HS.out⟩ | rfl | exact ⟨by omega,HS.out⟩
      ·intro w' hS
       refine OpTo.wanted ?_ ?_
       kernel_rfl
       have HS:=Lib.hid hS
       clear hS
       go_wp2_with fail
       all_goals first | exact HS.out | exact ⟨rfl,HS.out⟩ | rfl | exact ⟨by omega,HS.out⟩
      ·intro w' hS
       refine OpTo.wanted ?_ ?_
       kernel_rfl
       have HS:=Lib.hid hS
       clear hS
       go_wp2_with fail
       all_goals first | exact HS.out | exact ⟨rfl,HS.out⟩ | rfl | exact ⟨by omega,HS.out⟩
      ·intro w' hS
       refine OpTo.wanted ?_ ?_
       kernel_rfl
       have HS:=Lib.hid hS
       clear hS
       go_wp2_with fail
       all_goals first | exact HS.out | exact ⟨rfl,HS.out⟩ | rfl | exact ⟨by omega,HS.out⟩
      ·intro w' hS
       refine OpTo.wanted ?_ ?_
       kernel_rfl
       have HS:=Lib.hid hS
       clear hS
       go_wp2_with fail
       all_goals first | exact HS.out | exact ⟨rfl,HS.out⟩ | rfl | exact ⟨by omega,HS.out⟩
      ·intro w' hS
       refine OpTo.wanted ?_ ?_
       kernel_rfl
       have hl:=Nat.lt_of_lt_of_le hbr hS.size
       have r0:=(hS.cell (p:=⟨g,p * 4,none⟩) hbr).trans d0
       have r1:=(hS.cell (p:=⟨g,p * 4 + 1,none⟩) hbr).trans d1
       have r2:=(hS.cell (p:=⟨g,p * 4 + 2,none⟩) hbr).trans d2
       have r3:=(hS.cell (p:=⟨g,p * 4 + 3,none⟩) hbr).trans d3
       have HS:=Lib.hid hS
       clear hS
       go_wp2_with fail
       all_goals first | exact HS.out | exact ⟨rfl,HS.out⟩ | rfl | exact ⟨by omega,HS.out⟩
      ·intro w' hS
       refine OpTo.wanted ?_ ?_
       kernel_rfl
       have d0_0:=(KW.out.below hS KW.out.lt).cell 0
       have d0_1:=(KW.out.below hS KW.out.lt).cell 1
       have d0_2:=(KW.out.below hS KW.out.lt).cell 2
       simp at d0_0 d0_1 d0_2
       have HS:=Lib.hid hS
       clear hS
       go_wp2_with fail
       all_goals first | exact HS.out | exact ⟨rfl,HS.out⟩ | rfl | exact ⟨by omega,HS.out⟩
      ·intro w' hS
       refine OpTo.wanted ?_ ?_
       kernel_rfl
       have HS:=Lib.hid hS
       clear hS
       go_wp2_with fail
       refine (CO.out w').mono ?_
       rintro e w'' ⟨rfl,hb2⟩
       exact ⟨rfl,andB HS.out hb2⟩
      ·intro w' hS
       refine OpTo.wanted ?_ ?_
       kernel_rfl
       have HS:=Lib.hid hS
       clear hS
       go_wp2_with fail
       all_goals first | exact HS.out | exact ⟨rfl,HS.out⟩ | rfl | exact ⟨by omega,HS.out⟩
      ·intro w' hS
       refine OpTo.plain ?_ ?_
       exact rfl
       have HS:=Lib.hid hS
       clear hS
       go_wp2_with fail
       all_goals first | exact HS.out | exact ⟨rfl,HS.out⟩ | rfl | exact ⟨by omega,HS.out⟩
      ·intro w' hS
       refine OpTo.plain ?_ ?_
       exact rfl
       have HS:=Lib.hid hS
       clear hS
       go_wp2_with fail
       all_goals first | exact HS.out | exact ⟨rfl,HS.out⟩ | rfl | exact ⟨by omega,HS.out⟩
      ·intro w' hS
       refine OpTo.plain ?_ ?_
       exact rfl
       have HS:=Lib.hid hS
       clear hS
       go_wp2_with fail
       all_goals first | exact HS.out | exact ⟨rfl,HS.out⟩ | rfl | exact ⟨by omega,HS.out⟩
     -- END
     intro w2 hb
     have B2:=Lib.hid (B0.out.trans ((andB BB.out hb).mono (by have:=HSZ.out; omega)))
     clear hb
     go_wp2_with fail
     go_ret2
     exact ⟨B2.out,p,false,rfl,(fun h=>by cases h),fun _=>NN.out⟩
   ·have hpN:p=l.length:=by omega
    have NN:Hid (∀ x,x<l.length→keyD (dbt l x)≠keyD ⟨a,b,0⟩):=Lib.hid (fun x hx=>by
     have:=HL.out x (by omega); omega)
    subst hpN
    have q1:decide (((l.length:Nat):Int)<(l.length:Int))=false:=by simp
    go_wp2_with fail
    -- E
    refine region_still (by kernel_rfl) [(.int .i64 (l.length:Nat)),(.int .i64 (l.length:Nat)),(.int .i64 (l.length:Nat)),(.bool false),(.bool false),undef,undef,undef,undef,undef,undef,undef,undef,(.bool false),(.int .i64 (l.length:Nat)),(.bool false)]
     (fun w'=>Below wr.heap.size wr w') (by kernel_rfl) (Below.refl _ _).drew ?_
    intro af haf
    simp only [List.toList_toArray,List.append_eq,List.cons_append,List.nil_append,puts,Act.put,List.getD_cons_zero,List.getD_cons_succ,List.setIfInBounds_toArray,List.set_cons_succ,List.set_cons_zero] at haf
    subst haf
    refine ⟨?_,?_⟩
    ·simp only [List.toList_toArray,List.append_eq,List.cons_append,List.nil_append,EachTo]
     refine ⟨?_,?_,?_,?_,?_,?_,?_,?_,?_,?_,?_,?_,?_,?_,?_,?_,trivial⟩
     ·intro w' hS
      refine OpTo.plain ?_ ?_
      exact rfl
      have HS:=Lib.hid hS
      clear hS
      go_wp2_with fail
      all_goals first | exact HS.out | exact ⟨rfl,HS.out⟩ | rfl | exact ⟨by omega,HS.out⟩
     ·intro w' hS
      refine OpTo.plain ?_ ?_
      exact rfl
      have HS:=Lib.hid hS
      clear hS
      go_wp2_with fail
      all_goals first | exact HS.out | exact ⟨rfl,HS.out⟩ | rfl | exact ⟨by omega,HS.out⟩
     ·intro w' hS
      refine OpTo.plain ?_ ?_
      exact rfl
      have HS:=Lib.hid hS
      clear hS
      go_wp2_with fail
      all_goals first | exact HS.out | exact ⟨rfl,HS.out⟩ | rfl | exact ⟨by omega,HS.out⟩
     ·intro w' hS
      refine OpTo.plain ?_ ?_
      exact rfl
      have HS:=Lib.hid hS
      clear hS
      go_wp2_with fail
      all_goals first | exact HS.out | exact ⟨rfl,HS.out⟩ | rfl | exact ⟨by omega,HS.out⟩
     ·intro w' hS
      refine OpTo.plain ?_ ?_
      exact rfl
      have HS:=Lib.hid hS
      clear hS
      go_wp2_with fail
      all_goals first | exact HS.out | exact ⟨rfl,HS.out⟩ | rfl | exact ⟨by omega,HS.out⟩
     ·intro w' hS
      refine OpTo.passed (by kernel_rfl) rfl hS
     ·intro w' hS
      refine OpTo.passed (by kernel_rfl) rfl hS
     ·intro w' hS
      refine OpTo.passed (by kernel_rfl) rfl hS
     ·intro w' hS
      refine OpTo.passed (by kernel_rfl) rfl hS
     ·intro w' hS
      refine OpTo.passed (by kernel_rfl) rfl hS
     ·intro w' hS
      refine OpTo.passed (by kernel_rfl) rfl hS
     ·intro w' hS
      refine OpTo.passed (by kernel_rfl) rfl hS
     ·intro w' hS
      refine OpTo.passed (by kernel_rfl) rfl hS
     ·intro w' hS
      refine OpTo.plain ?_ ?_
      exact rfl
      have HS:=Lib.hid hS
      clear hS
      go_wp2_with fail
      all_goals first | exact HS.out | exact ⟨rfl,HS.out⟩ | rfl | exact ⟨by omega,HS.out⟩
     ·intro w' hS
      refine OpTo.plain ?_ ?_
      exact rfl
      have HS:=Lib.hid hS
      clear hS
      go_wp2_with fail
      all_goals first | exact HS.out | exact ⟨rfl,HS.out⟩ | rfl | exact ⟨by omega,HS.out⟩
     ·intro w' hS
      refine OpTo.plain ?_ ?_
      exact rfl
      have HS:=Lib.hid hS
      clear hS
      go_wp2_with fail
      all_goals first | exact HS.out | exact ⟨rfl,HS.out⟩ | rfl | exact ⟨by omega,HS.out⟩
    -- END
    intro w2 hb
    have B2:=Lib.hid (B0.out.trans ((andB BB.out hb).mono (by have:=HSZ.out; omega)))
    clear hb
    go_wp2_with fail
    go_ret2
    exact ⟨B2.out,l.length,false,rfl,(fun h=>by cases h),fun _=>NN.out⟩
end Go.Proofs.YtlbjjkbppbmihaaGreat
namespace Go.Proofs.YtlbjjkbppbmihaaGreat
open Go.RowKit
theorem key_ends {x y:Fw} (h1:0≤x.tt∧x.tt≤255) (h2:0≤y.tt∧y.tt≤255):keyD x=keyD y↔x.fr=y.fr∧x.tt=y.tt:=by
 unfold keyD
 constructor
 ·intro h; constructor <;> omega
 ·rintro ⟨h,g⟩; rw [h,g]
theorem MayD.tt8 {l:List Fw} (h:MayD l) {i:Nat} (hi:i<l.length):0≤(dbt l i).tt∧(dbt l i).tt≤255:=by
 have:=(h.ok i hi).2.1
 unfold inP at this
 omega
def ofPost (t:TypeId) (l:List Fw) (B:Nat) (a b:Int) (w:World) (e:Ending) (w':World):Prop :=
 Below w.heap.size w w'∧((∃ i,i<l.length∧(dbt l i).fr=a∧(dbt l i).tt=b∧e=.returned (.pointer (some ⟨B,i * 4,none⟩))) ∨
  ((∀ i,i<l.length→¬ ((dbt l i).fr=a∧(dbt l i).tt=b))∧∃ g,e=.returned (.pointer (some ⟨g,0,none⟩))∧w.heap.size≤g∧Blk w' g #[.int .u8 0,.int .u8 0,.int .i64 0,.int .i64 0] t))
set_option maxHeartbeats 4000000 in
set_option maxRecDepth 100000 in
theorem cof_any {w:World} {base B cap:Nat} {l:List Fw} {L:Nat→Int} (hO:w.ownsRow base 139 4 (.slice (some ⟨B,0,none⟩) l.length cap) l.length (dcCells l L l.length)) (hM:MayD l) (hln:l.length≤300) (a b:Int) (hb:0≤b∧b≤255) :
  Calls Tryz.prog 116 #[.slice (some ⟨B,0,none⟩) l.length cap,.int .u8 a,.int .u8 b] w (ofPost 139 l B a b w):=by
 have CB:=Lib.hid (bs_any hO hM hln a b hb)
 have HM:=Lib.hid hM
 have HB:=Lib.hid hb
 clear hO hM hb
 go_enter Tryz.func116,Tryz.ntmps116
 go_wp2_with fail
 refine CB.out.mono ?_
 rintro e w1 ⟨hb1,p,f,rfl,h1,h2⟩
 have B1:=Lib.hid hb1
 clear hb1 CB
 cases f with
 | true =>
  obtain ⟨h3,h4⟩:=h1 rfl
  have HP:Hid (p<l.length∧(dbt l p).fr=a∧(dbt l p).tt=b):=Lib.hid ⟨h3,(key_ends (HM.out.tt8 h3) HB.out).1 h4⟩
  have p0:(0:Int)≤(p:Int):=by omega
  have p1:(p:Int)<(l.length:Int):=by omega
  clear h1 h2 h4
  go_wp2_with fail
  go_ret
  exact ⟨B1.out,.inl ⟨p,HP.out.1,HP.out.2.1,HP.out.2.2,rfl⟩⟩
 | false =>
  have HN:Hid (∀ i,i<l.length→¬ ((dbt l i).fr=a∧(dbt l i).tt=b)):=Lib.hid fun i hi h=>h2 rfl i hi ((key_ends (HM.out.tt8 hi) HB.out).2 h)
  clear h1 h2
  go_wp2_with fail
  go_ret
  exact ⟨B1.out.alloc B1.out.size _,.inr ⟨HN.out,w1.heap.size,rfl,B1.out.size,Blk.new _ _ _⟩⟩
def sgS (l:List Fw) (L:Nat→Int) (a b:Int):Int:=if bkS l L a b then -1 else 1
def StepPost (l:List Fw) (L:Nat→Int) (B:Nat) (a b:Int) (w:World) (e:Ending) (w':World):Prop :=
 e=.returned (.agg #[.pointer (some ⟨B,ixS l L a b * 4,none⟩),.int .i64 (sgS l L a b)])∧Below w.heap.size w w'
theorem pA_ix {l:List Fw} {L:Nat→Int} (hM:MayD l) {a b:Int} {i:Nat} (hi:i<l.length) (h1:(dbt l i).fr=a) (h2:(dbt l i).tt=b) (h3:0<L i):bkS l L a b=false∧ixS l L a b=i:=by
 have hp:pA l L a b i=true:=by unfold pA; simp [h1,h2,h3]
 have:=lastI_only hi hp (fun j hj hq=>by
  unfold pA at hq
  simp only [Bool.and_eq_true,beq_iff_eq,decide_eq_true_eq] at hq
  exact hM.inj hj hi (by rw [hq.1.1,h1]) (by rw [hq.1.2,h2]))
 unfold bkS ixS
 rw [this]
 exact ⟨rfl,rfl⟩
set_option maxHeartbeats 4000000 in
set_option maxRecDepth 100000 in
theorem cstep_any {w:World} {base B cap:Nat} {l:List Fw} {L:Nat→Int} (hO:w.ownsRow base 139 4 (.slice (some ⟨B,0,none⟩) l.length cap) l.length (dcCells l L l.length)) (hM:MayD l) (hln:l.length≤300) (hL:RdOk l L) {a b:Int} (hb:0≤b∧b≤255) (ha:0≤a∧a≤255) {c:Int→Int→Int} (hS:StD l L c a b) (hBl:B<w.heap.size) :
  Calls Tryz.prog 90 #[.slice (some ⟨B,0,none⟩) l.length cap,.int .u8 a,.int .u8 b] w (StepPost l L B a b w):=by
 have B0:=Lib.hid ((Below.refl w.heap.size w).alloc (Nat.le_refl _) (.cells #[.pointer none,.int .i64 0] 146))
 have K0:=Lib.hid (Blk.new w #[.pointer none,.int .i64 0] 146)
 have O0:=Lib.hid (owns_below hO ((Below.refl w.heap.size w).alloc (Nat.le_refl _) (.cells #[.pointer none,.int .i64 0] 146)))
 have CA:=Lib.hid (cof_any O0.out hM hln a b hb)
 have HM:=Lib.hid hM
 have HS:=Lib.hid hS
 have HL:=Lib.hid hL
 have HAB:=Lib.hid (And.intro ha hb)
 clear hO hM hb ha hS hL
 go_enter Tryz.func90,Tryz.ntmps90
 go_wp2_with fail
 generalize (w.alloc (.cells #[.pointer none,.int .i64 0] 146))=w0 at B0 K0 O0 CA ⊢
 refine CA.out.mono ?_
 rintro e w1 ⟨hb1,hcase⟩
 have B1:=Lib.hid (B0.out.trans (hb1.mono B0.out.size))
 have K1:=Lib.hid (K0.out.below hb1 K0.out.lt)
 have O1:=Lib.hid (owns_below O0.out hb1)
 have HZ:=Lib.hid hb1.size
 clear CA hb1
 -- the second look
 have second:Hid (bkS l L a b=true→Calls Tryz.prog 116 #[.slice (some ⟨B,0,none⟩) l.length cap,.int .u8 b,.int .u8 a] w1 fun e w2=>e=.returned (.pointer (some ⟨B,ixS l L a b * 4,none⟩))∧Below w1.heap.size w1 w2):=Lib.hid (fun hbk=>by
  refine (cof_any O1.out HM.out hln b a HAB.out.1).mono ?_
  rintro e w2 ⟨hb2,⟨i,hi,h1,h2,rfl⟩ | ⟨hn,_⟩⟩
  ·refine ⟨?_,hb2⟩
   rcases HS.out.is with ⟨q,_⟩ | ⟨_,q1,q2,_⟩
   ·rw [q] at hbk; cases hbk
   ·rw [HM.out.inj hi HS.out.ix (by rw [h1,q1]) (by rw [h2,q2])]
  ·rcases HS.out.is with ⟨q,_⟩ | ⟨_,q1,q2,_⟩
   ·rw [q] at hbk; cases hbk
   ·exact absurd ⟨q1,q2⟩ (hn _ HS.out.ix))
 rcases hcase with ⟨i,hi,h1,h2,rfl⟩ | ⟨hn,g,rfl,hg,hk⟩
 ·obtain ⟨e0,e1,e2,e3⟩:=dc_get O1.out hi
  have hBw:B<w1.heap.size:=by have:=HZ.out; have:=B0.out.size; have:=B1.out.size; omega
  by_cases hp:0<L i
  ·obtain ⟨q1,q2⟩:=pA_ix HM.out hi h1 h2 hp
   have hp':decide (0<L i)=true:=by simpa using hp
   have HQ:Hid (StepPost l L B a b w (.returned (.agg #[.pointer (some ⟨B,i * 4,none⟩),.int .i64 1])) ((w1.setCell ⟨w.heap.size,0,none⟩ (.pointer (some ⟨B,i * 4,none⟩))).setCell ⟨w.heap.size,1,none⟩ (.int .i64 1))):=Lib.hid ⟨by unfold sgS; rw [q1,q2]; rfl,(B1.out.setCell (Nat.le_refl _) _).setCell (Nat.le_refl _) _⟩
   have d0:=K1.out.cell 0; have d1:=K1.out.cell 1; have f0:=K1.out.frozen 0; have f1:=K1.out.frozen 1
   have hlt:=K1.out.lt
   simp at d0 d1
   clear second h1 h2 q1 q2
   go_wp2_with fail
   refine bodyPost_ret (v:=.agg #[.pointer (some ⟨B,i * 4,none⟩),.int .i64 1]) (results_cell_row rfl _ _ w.heap.size 146 #[.pointer (some ⟨B,i * 4,none⟩),.int .i64 1] (0,0) _ rfl ((K1.out.set 0 (.pointer (some ⟨B,i * 4,none⟩))).set 1 (.int .i64 1)).out Tryz.underlying146 rfl (by kernel_rfl)) rfl HQ.out
  ·have hbk:bkS l L a b=true:=by
    rcases HS.out.is with ⟨_,q1,q2,q3,_⟩ | ⟨q,_⟩
    ·have:=HM.out.inj hi HS.out.ix (by rw [h1,q1]) (by rw [h2,q2])
     rw [← this] at q3
     exact absurd q3 hp
    ·exact q
   have hp':decide (0<L i)=false:=by simpa using hp
   have CS:=Lib.hid (second.out hbk)
   have HBK:=Lib.hid hbk
   clear second h1 h2 hbk
   go_wp2_with fail
   refine CS.out.mono ?_
   rintro e w2 ⟨rfl,hb2⟩
   have K2:=K1.out.below hb2 K1.out.lt
   have d0:=K2.cell 0; have d1:=K2.cell 1; have f0:=K2.frozen 0; have f1:=K2.frozen 1
   have hlt:=K2.lt
   have HK2:=Lib.hid K2
   have HQ:Hid (StepPost l L B a b w (.returned (.agg #[.pointer (some ⟨B,ixS l L a b * 4,none⟩),.int .i64 (-1)])) ((w2.setCell ⟨w.heap.size,0,none⟩ (.pointer (some ⟨B,ixS l L a b * 4,none⟩))).setCell ⟨w.heap.size,1,none⟩ (.int .i64 (-1)))):=Lib.hid ⟨by unfold sgS; rw [HBK.out]; rfl,((B1.out.trans (hb2.mono B1.out.size)).setCell (Nat.le_refl _) _).setCell (Nat.le_refl _) _⟩
   simp at d0 d1
   clear K2 hb2 CS e0 e1 e2 e3
   go_wp2_with fail
   refine bodyPost_ret (v:=.agg #[.pointer (some ⟨B,ixS l L a b * 4,none⟩),.int .i64 (-1)]) (results_cell_row rfl _ _ w.heap.size 146 #[.pointer (some ⟨B,ixS l L a b * 4,none⟩),.int .i64 (-1)] (0,0) _ rfl ((HK2.out.set 0 (.pointer (some ⟨B,ixS l L a b * 4,none⟩))).set 1 (.int .i64 (-1))).out Tryz.underlying146 rfl (by kernel_rfl)) rfl HQ.out
 ·have hbk:bkS l L a b=true:=by
   rcases HS.out.is with ⟨_,q1,q2,q3,_⟩ | ⟨q,_⟩
   ·exact absurd ⟨q1,q2⟩ (hn _ HS.out.ix)
   ·exact q
  have CS:=Lib.hid (second.out hbk)
  have HBK:=Lib.hid hbk
  have e2:=hk.cell 2
  have hgl:=hk.lt
  simp at e2
  clear second hbk hn hk
  go_wp2_with fail
  refine CS.out.mono ?_
  rintro e w2 ⟨rfl,hb2⟩
  have K2:=K1.out.below hb2 K1.out.lt
  have d0:=K2.cell 0; have d1:=K2.cell 1; have f0:=K2.frozen 0; have f1:=K2.frozen 1
  have hlt:=K2.lt
  have HK2:=Lib.hid K2
  have HQ:Hid (StepPost l L B a b w (.returned (.agg #[.pointer (some ⟨B,ixS l L a b * 4,none⟩),.int .i64 (-1)])) ((w2.setCell ⟨w.heap.size,0,none⟩ (.pointer (some ⟨B,ixS l L a b * 4,none⟩))).setCell ⟨w.heap.size,1,none⟩ (.int .i64 (-1)))):=Lib.hid ⟨by unfold sgS; rw [HBK.out]; rfl,((B1.out.trans (hb2.mono B1.out.size)).setCell (Nat.le_refl _) _).setCell (Nat.le_refl _) _⟩
  simp at d0 d1
  clear K2 hb2 CS e2 hgl
  go_wp2_with fail
  refine bodyPost_ret (v:=.agg #[.pointer (some ⟨B,ixS l L a b * 4,none⟩),.int .i64 (-1)]) (results_cell_row rfl _ _ w.heap.size 146 #[.pointer (some ⟨B,ixS l L a b * 4,none⟩),.int .i64 (-1)] (0,0) _ rfl ((HK2.out.set 0 (.pointer (some ⟨B,ixS l L a b * 4,none⟩))).set 1 (.int .i64 (-1))).out Tryz.underlying146 rfl (by kernel_rfl)) rfl HQ.out
end Go.Proofs.YtlbjjkbppbmihaaGreat
namespace Go.Proofs.YtlbjjkbppbmihaaGreat
open Go.RowKit
theorem owns_set {w:World} {base:Nat} {e:TypeId} {size:Nat} {g n cap:Nat} {xs:List Value} (h:w.ownsRow base e size (.slice (some ⟨g,0,none⟩) n cap) n xs) (j:Nat) (v:Value) :
  (w.setCell ⟨g,j,none⟩ v).ownsRow base e size (.slice (some ⟨g,0,none⟩) n cap) n (xs.set j v):=by
 obtain ⟨h1,h2⟩:=h
 refine ⟨by simpa using h1,.inr ?_⟩
 rcases h2 with ⟨h2,_⟩ | ⟨g',cap',cur,hv,hb,hg,hm,hc,hs,ht⟩
 ·cases h2
 ·cases hv
  refine ⟨g,cap,cur.setIfInBounds j v,rfl,hb,?_,hm,hc,by simpa using hs,?_⟩
  ·exact Blk.set (t:=e) hg j v
  ·rw [Array.toList_setIfInBounds,List.take_set,ht]
theorem chas_any {w:World} {base B cap:Nat} {l:List Fw} {L:Nat→Int} (hO:w.ownsRow base 139 4 (.slice (some ⟨B,0,none⟩) l.length cap) l.length (dcCells l L l.length)) {i:Nat} (hi:i<l.length) (hB:B<w.heap.size) (bk:Bool) :
  Calls Tryz.prog 91 #[.agg #[.pointer (some ⟨B,i * 4,none⟩),.int .i64 (if bk then -1 else 1)]] w fun e w'=>e=.returned (.int .i64 (if bk then (dbt l i).am - L i else L i))∧Below w.heap.size w w':=by
 cases bk with
 | true =>
  have B0:=Lib.hid ((Below.refl w.heap.size w).alloc (Nat.le_refl _) (.cells #[.pointer (some ⟨B,i * 4,none⟩),.int .i64 (-1)] 146))
  obtain ⟨e0,e1,e2,e3⟩:=dc_get hO hi
  clear hO e0 e1
  simp only [if_true]
  go_enter Tryz.func91,Tryz.ntmps91
  go_wp2_with fail
  go_ret
  exact ⟨rfl,B0.out⟩
 | false =>
  have B0:=Lib.hid ((Below.refl w.heap.size w).alloc (Nat.le_refl _) (.cells #[.pointer (some ⟨B,i * 4,none⟩),.int .i64 1] 146))
  obtain ⟨e0,e1,e2,e3⟩:=dc_get hO hi
  clear hO e0 e1
  simp only [Bool.false_eq_true,if_false]
  go_enter Tryz.func91,Tryz.ntmps91
  go_wp2_with fail
  go_ret
  exact ⟨rfl,B0.out⟩
def MovePost (t:TypeId) (base:Nat) (c:Value) (l:List Fw) (M:Nat→Int) (B:Nat) (w:World) (e:Ending) (w':World):Prop :=
 e=.returned (.tuple #[])∧w'.ownsRow base t 4 c l.length (dcCells l M l.length)∧Keep (fun b=>b=B) w w'
set_option maxHeartbeats 4000000 in
set_option maxRecDepth 100000 in
theorem cmove_any {w:World} {base B cap:Nat} {l:List Fw} {L:Nat→Int} (hO:w.ownsRow base 139 4 (.slice (some ⟨B,0,none⟩) l.length cap) l.length (dcCells l L l.length)) {i:Nat} (hi:i<l.length) (hB:B<w.heap.size) (bk:Bool) {n:Int}
  (hn:0≤n∧n≤1099511627776) (hl:0≤L i∧L i≤1099511627776) (ha:0≤(dbt l i).am - L i∧(dbt l i).am - L i≤1099511627776) :
  Calls Tryz.prog 92 #[.agg #[.pointer (some ⟨B,i * 4,none⟩),.int .i64 (if bk then -1 else 1)],.int .i64 n] w (MovePost 139 base (.slice (some ⟨B,0,none⟩) l.length cap) l (updL L i (L i + if bk then n else -n)) B w):=by
 obtain ⟨n0,n9⟩:=hn
 obtain ⟨l0,l9⟩:=hl
 obtain ⟨t0,t9⟩:=ha
 have HSET:=Lib.hid (fun v=>dcCells_set l L hi v)
 have O0:=Lib.hid hO
 cases bk with
 | true =>
  obtain ⟨e0,e1,e2,e3⟩:=dc_get hO hi
  have hfz:=fun j=>hO.frozenAt j
  have f2:=hfz (i * 4 + 2)
  have f3:=hfz (i * 4 + 3)
  clear hO e0 e1 hfz
  generalize hx:(dbt l i).am - L i=tk at *
  generalize hy:L i=z at *
  have HV:Hid ((dbt l i).am - (z + n)=(tk + -n)):=Lib.hid (by omega)
  clear hx hy
  have hm:(-1:Int) * n = -n:=by omega
  simp only [if_true]
  go_enter Tryz.func92,Tryz.ntmps92
  go_wp2_with fail
  go_region
  go_wp2_with fail
  go_region
  go_wp2_with fail
  go_end0
  refine ⟨rfl,?_,?_⟩
  ·have h1:=owns_below (owns_set (owns_set O0.out (i * 4 + 2) (.int .i64 (z + n))) (i * 4 + 3) (.int .i64 (tk + -n))) ((Below.refl _ _).alloc (Nat.le_refl _) (.cells #[.pointer (some ⟨B,i * 4,none⟩),.int .i64 (-1)] 146))
   have h2:=HSET.out (z + n)
   rw [HV.out] at h2
   rw [h2] at h1
   exact h1
  ·exact ((((Keep.refl (fun b=>b=B) w).setCell (p:=⟨B,i * 4 + 2,none⟩) (.inl rfl) _).setCell (p:=⟨B,i * 4 + 3,none⟩) (.inl rfl) _).alloc _).drew.drew
 | false =>
  obtain ⟨e0,e1,e2,e3⟩:=dc_get hO hi
  have hfz:=fun j=>hO.frozenAt j
  have f2:=hfz (i * 4 + 2)
  have f3:=hfz (i * 4 + 3)
  clear hO e0 e1 hfz
  generalize hx:(dbt l i).am - L i=tk at *
  generalize hy:L i=z at *
  have HV:Hid ((dbt l i).am - (z - n)=(tk + n)):=Lib.hid (by omega)
  clear hx hy
  have hm:(1:Int) * n=n:=by omega
  have hz:z + -n=z - n:=by omega
  simp only [Bool.false_eq_true,if_false]
  rw [hz]
  go_enter Tryz.func92,Tryz.ntmps92
  go_wp2_with fail
  go_region
  go_wp2_with fail
  go_region
  go_wp2_with fail
  go_end0
  refine ⟨rfl,?_,?_⟩
  ·have h1:=owns_below (owns_set (owns_set O0.out (i * 4 + 2) (.int .i64 (z - n))) (i * 4 + 3) (.int .i64 (tk + n))) ((Below.refl _ _).alloc (Nat.le_refl _) (.cells #[.pointer (some ⟨B,i * 4,none⟩),.int .i64 (1)] 146))
   have h2:=HSET.out (z - n)
   rw [HV.out] at h2
   rw [h2] at h1
   exact h1
  ·exact ((((Keep.refl (fun b=>b=B) w).setCell (p:=⟨B,i * 4 + 2,none⟩) (.inl rfl) _).setCell (p:=⟨B,i * 4 + 3,none⟩) (.inl rfl) _).alloc _).drew.drew
end Go.Proofs.YtlbjjkbppbmihaaGreat
