/- Pieces of one proof. -/
import Derived.Test.YtngnfdnfpiiclaaGreatO11
set_option linter.all false
set_option maxHeartbeats 64000000
set_option maxRecDepth 100000
namespace Go.Proofs.YtngnfdnfpiiclaaGreat
open Go.RowKit
theorem aJ5(w:World)(q:Nat)(os:Array Obj):Below w.heap.size w (Go.Sort.grow (w.drewN q) os):=by
 refine⟨rfl,rfl,rfl,by simp[Go.Sort.grow],fun k hk=>?_⟩;rw[Go.Sort.heap_grow_old _ _ (by simpa using hk)];rfl
theorem aAs.atP{w:World}{v:Value}{zs:List Int}(h:aAs w v 1 zs.length (zs.map (.int .u8))):
  ∃(ao:Option Addr) (cap:Nat),v=.slice ao zs.length cap∧zs.length≤100000000∧∀k,k<zs.length→∃b off,ao=some ⟨b,off,none⟩∧b<w.heap.size∧∀j (hj:j<zs.length),w.cell? ⟨b,off+j,none⟩=some (.int .u8 zs[j]):=by
 obtain⟨ao,cap,rfl,h1,h2,h3⟩:=h;refine⟨ao,cap,rfl,h1,fun k hk=>?_⟩;obtain⟨b,off,rfl,hb,hc⟩:=h3 (by omega);exact⟨b,off,rfl,hb,fun j hj=>by rw[hc j (by omega)];simp[hj]⟩
theorem aAs.atL{w:World}{v:Value}{ls:List Ln}(h:aAs w v 5 ls.length (aAd ls)):
  ∃(ao:Option Addr) (cap:Nat),v=.slice ao ls.length cap∧ls.length≤100000000∧∀k,k<ls.length→∃b off,ao=some ⟨b,off,none⟩∧b<w.heap.size∧∀j (hj:j<ls.length) i,i<5→w.cell? ⟨b,off+j*5+i,none⟩=ls[j].vals[i]? := by
 obtain⟨ao,cap,rfl,h1,h2,h3⟩:=h;refine⟨ao,cap,rfl,h1,fun k hk=>?_⟩;obtain⟨b,off,rfl,hb,hc⟩:=h3 (by omega);exact⟨b,off,rfl,hb,fun j hj i hi=>by rw[Nat.add_assoc,hc (j*5+i) (by omega),aAp ls j i hi hj]⟩
def OfPost(w:World)(zs:List Int)(ls:List Ln)(e:Ending)(w':World):Prop:=
 Below w.heap.size w w'∧((okP zs∧ls.length≤64∧okL zs ls∧∃g m,w.heap.size≤g∧w.heap.size≤m∧e=.returned (.tuple #[.pointer (some ⟨g,0,none⟩),.int .i64 0])∧LedM w' g m zs ls)∨
  (e=.returned (.tuple #[.pointer none,.int .i64 9])∧okP zs∧64<ls.length)∨
  (e=.returned (.tuple #[.pointer none,.int .i64 1])∧(¬okP zs∨(okP zs∧ls.length≤64∧¬okL zs ls))))
def OfAtL1(w:World)(G M:Nat)(zs:List Int)(i:Value)(wr:World):Prop:=
 ∃k:Nat,k≤zs.length∧i=.int .i64 k∧okP (zs.take k)∧LedM wr G M (zs.take k) []∧Below w.heap.size w wr
def OfAtL2(w:World)(G M:Nat)(zs:List Int)(ls:List Ln)(i:Value)(wr:World):Prop:=
 ∃k:Nat,k≤ls.length∧i=.int .i64 k∧okL zs (ls.take k)∧LedM wr G M zs (ls.take k)∧Below w.heap.size w wr
theorem pof_any{w:World}{vp vl:Value}{zs:List Int}{ls:List Ln}(hp:aAs w vp 1 zs.length (zs.map (.int .u8)))(hl:aAs w vl 5 ls.length (aAd ls))(h8:∀p∈zs,In8 p)(hf:∀x∈ls,x.Fits):
  Calls Tryz.prog 65 #[vp,vl] w (OfPost w zs ls):=by
 obtain⟨po,pcap,rfl,hpl,hP⟩:=hp.atP;obtain⟨lo,lcap,rfl,hll,hL⟩:=hl.atL;have HPR:=yH hP;have HLR:=yH hL;have H8:=yH h8;have HF:=yH hf;clear hp hl hP hL h8 hf;go_enter Tryz.func65,Tryz.ntmps65;go_wp2_with fail;refine(new_any w).mono ?_;rintro e w0 ⟨G,M,rfl,h0,hG,hM,hb0⟩;have H0:=yH h0;have B0:=yH hb0;clear h0 hb0;go_wp2_with fail
 go_loopw [14] (OfAtL1 w G M zs) (fun i _=>zs.length - (intOf i).toNat)
 case atStart=>exact⟨0,Nat.zero_le _,rfl,okP.nil,H0.o,B0.o⟩
 obtain⟨k,hk,rfl,hok,hL,hB⟩:=hrel;have HO:=yH hok;have H1:=yH hL;have B1:=yH hB;clear hok hL hB
 by_cases hkl:k<zs.length
 ·obtain⟨bp,op,rfl,hbp,hcp⟩:=HPR.o k hkl;have hbp1:bp<wr.heap.size:=yM hbp B1.o.size;have HC:=yH (fun j (hj:j<zs.length)=>(B1.o.cell (p:=⟨bp,op+j,none⟩) hbp).trans (hcp j hj));clear hcp;have d0:wr.cell? ⟨bp,op+k,none⟩=some (.int .u8 zs[k]):=HC.o k hkl;have C2:=yH (aCl zs[k] wr);have NX:=yH (fun hm hs=>okP.next hkl HO.o hm hs);have BD:=yH (fun h=>okP.bad hkl h)
  by_cases hm:mayP zs[k]=false
  ·have HB:=yH (BD.o (.inl hm));rw[hm]at C2;clear hm NX BD;generalize zs[k]=p at *;go_wp2_with fail;refine C2.o.mono ?_;rintro e wr ⟨rfl,rfl⟩;go_wp2_with fail;refine bodyPost_ret (v:=.tuple #[.pointer none,.int .i64 1]) (by simp[results,Tryz.results65,go_sem]) rfl ?_;exact⟨B1.o,.inr (.inr ⟨rfl,.inl HB.o⟩)⟩
  have hm:mayP zs[k]=true:=by simpa using hm
  rw[hm]at C2;have hpb:1≤zs[k]∧zs[k]≤16:=by unfold mayP at hm;simpa using hm
  by_cases hbad:∃hk0:0<k,zs[k]≤zs[k - 1]'(by omega)
  ·have HB:=yH (BD.o (.inr hbad));obtain⟨hk0,hle⟩:=hbad;obtain⟨j,rfl⟩:∃j,k=j+1:=⟨k - 1,by omega⟩;have d1:wr.cell? ⟨bp,op+j,none⟩=some (.int .u8 zs[j]):=HC.o j (by omega);have hle:zs[j+1]≤zs[j]:=hle;have s1:decide (zs[j+1]≤zs[j])=true:=by simpa using hle
   clear hm NX BD HC hpb;generalize zs[j+1]=p at *;generalize zs[j]=q at *;go_wp2_with fail;refine C2.o.mono ?_;rintro e wr ⟨rfl,rfl⟩;go_wp2_with fail;refine bodyPost_ret (v:=.tuple #[.pointer none,.int .i64 1]) (by simp[results,Tryz.results65,go_sem]) rfl ?_;exact⟨B1.o,.inr (.inr ⟨rfl,.inl HB.o⟩)⟩
  have hs:∀hk0:0<k,zs[k - 1]'(by omega)<zs[k]:=fun hk0=>by
   by_cases h:zs[k]≤zs[k - 1]'(by omega)
   ·exact absurd ⟨hk0,h⟩ hbad
   omega
  have HN:=yH (NX.o hm hs);have HT:=yH (List.take_succ_eq_append_getElem hkl)
  have H2:Hid (LedM (wr.setCell ⟨G,zs[k].toNat,none⟩ (.bool true)) G M (zs.take (k+1)) []∧Below w.heap.size w (wr.setCell ⟨G,zs[k].toNat,none⟩ (.bool true))):=yH (by
   have kk:=(Keep.refl (·=G) wr).setCell (p:=⟨G,zs[k].toNat,none⟩) (.inl rfl) (.bool true);refine⟨⟨?_,H1.o.map.keep kk H1.o.ne⟩,B1.o.trans (kk.below B1.o.size (fun b hb e=>by omega))⟩;have:=H1.o.blk.set zs[k].toNat (.bool true)
   rwa [ledC_set _ _ hpb (zs.take (k+1)) (fun q=>by
    rw[HT.o,List.mem_append,List.mem_singleton];exact Or.comm)]at this)
  obtain⟨p1,p2⟩:=hpb;have p3:0≤zs[k]:=by omega
  have p4:zs[k]<17:=by omega
  have d:=H1.o.blk.ledHas (p:=zs[k]) p3 p4;have f:=H1.o.blk.frozen zs[k].toNat;have hlt:=H1.o.blk.lt;generalize decide (zs[k]∈zs.take k)=wasthere at *
  by_cases hk0:0<k
  ·have hlt1:=hs hk0;obtain⟨j,rfl⟩:∃j,k=j+1:=⟨k - 1,by omega⟩;have d1:wr.cell? ⟨bp,op+j,none⟩=some (.int .u8 zs[j]):=HC.o j (by omega);have hlt1:zs[j]<zs[j+1]:=hlt1;have s1:decide (zs[j+1]≤zs[j])=false:=by simp;omega
   clear hm NX BD HC hs hbad HT HO H1;generalize zs[j+1]=p at *;generalize zs[j]=q at *;go_wp2_with fail;refine C2.o.mono ?_;rintro e wr ⟨rfl,rfl⟩;go_wp2_with fail;go_roundw
   case rel=>exact⟨j+1+1,by omega,by go_num,HN.o,H2.o.1,H2.o.2⟩
   case measure=>simp[intOf];omega
  have s1:decide (0<(k:Int))=false:=by simp;omega
  clear hm NX BD HC hs hbad HT HO H1;generalize zs[k]=p at *;go_wp2_with fail;refine C2.o.mono ?_;rintro e wr ⟨rfl,rfl⟩;go_wp2_with fail;go_roundw
  case rel=>exact⟨k+1,by omega,by go_num,HN.o,H2.o.1,H2.o.2⟩
  case measure=>simp[intOf];omega
 rw[List.take_of_length_le (by omega)]at HO H1;clear HPR H8 H0 B0;have HP:=HO;clear HO
 by_cases h64:64<ls.length
 ·go_wp2_with fail;refine bodyPost_ret (v:=.tuple #[.pointer none,.int .i64 9]) (by simp[results,Tryz.results65,go_sem]) rfl ?_;exact⟨B1.o,.inr (.inl ⟨rfl,HP.o,h64⟩)⟩
 have h64:ls.length≤64:=by omega
 go_wp2_with fail
 go_loopw [46] (OfAtL2 w G M zs ls) (fun i _=>ls.length - (intOf i).toNat)
 case atStart=>exact⟨0,Nat.zero_le _,rfl,okL.nil _,H1.o,B1.o⟩
 rename_i w4;clear H1 B1;obtain⟨k,hk,rfl,hok,hL,hB⟩:=hrel;have HO:=yH hok;have H1:=yH hL;have B1:=yH hB;clear hok hL hB
 by_cases hkl:k<ls.length
 ·obtain⟨bl,ol,rfl,hbl,hcl⟩:=HLR.o k hkl;have hbl1:bl<wr.heap.size:=yM hbl B1.o.size;have HC:=yH (fun j (hj:j<ls.length) i (hi:i<5)=>(B1.o.cell (p:=⟨bl,ol+j*5+i,none⟩) hbl).trans (hcl j hj i hi));have HMw:=yH hM;clear hcl
  by_cases hm:¬aFk zs ls[k]
  ·have HB:=yH (okL.bad hkl (.inl hm));have d0:wr.cell? ⟨bl,ol+(k)*5,none⟩=some (.int .u8 ls[k].cr):=HC.o (k) (by omega) 0 (by omega);have d1:wr.cell? ⟨bl,ol+(k)*5+1,none⟩=some (.int .u8 ls[k].de):=HC.o (k) (by omega) 1 (by omega);have d2:wr.cell? ⟨bl,ol+(k)*5+2,none⟩=some (.int .u8 ls[k].cu):=HC.o (k) (by omega) 2 (by omega);have d3:wr.cell? ⟨bl,ol+(k)*5+3,none⟩=some (.int .i64 ls[k].li):=HC.o (k) (by omega) 3 (by omega);have d4:wr.cell? ⟨bl,ol+(k)*5+4,none⟩=some (.int .i64 ls[k].db):=HC.o (k) (by omega) 4 (by omega);generalize hxe:ls[k]=x at *;clear hxe HC;have bw:=(Below.refl wr.heap.size wr).alloc yL (.cells #[.int .u8 x.cr,.int .u8 x.de,.int .u8 x.cu,.int .i64 x.li,.int .i64 x.db] 71);have B5:=yT B1 bw;have HL2:=yH (H1.o.below bw);have KX:=yH (Blk.new wr #[.int .u8 x.cr,.int .u8 x.de,.int .u8 x.cu,.int .i64 x.li,.int .i64 x.db] 71);clear bw H1 B1;go_wp2_with fail;generalize wr.alloc (.cells #[.int .u8 x.cr,.int .u8 x.de,.int .u8 x.cu,.int .i64 x.li,.int .i64 x.db] 71)=W at *
   have CL:Hid (∀w',Below W.heap.size W w'→Calls Tryz.prog 106 #[.pointer (some ⟨G,0,none⟩),.agg #[.int .u8 x.cr,.int .u8 x.de,.int .u8 x.cu,.int .i64 x.li,.int .i64 x.db]] w' fun e w''=>e=.returned (.bool false)∧Below w'.heap.size w' w''):=yH fun w' k=>by
    have:=aEm (HL2.o.below k).blk HP.o.2 x
    rwa [decide_eq_false hm]at this
   clear hm
   refine aAg (by kernel_rfl) [(.pointer (some ⟨G,0,none⟩)),(.agg #[.int .u8 x.cr,.int .u8 x.de,.int .u8 x.cu,.int .i64 x.li,.int .i64 x.db]),(.bool false),(.bool true),(.bool true),undef,undef,undef,undef,undef,undef,undef,undef,undef,undef,undef,undef,(.bool true)]
    (fun w'=>Below W.heap.size W w') (by kernel_rfl) yZ.drew ?_
   intro af haf;simp only[yG,List.append_eq,List.cons_append,List.nil_append,puts,Act.put,yA,yC,yF,yD,yE]at haf;subst haf;refine⟨?_,?_⟩
   ·simp only[yG,List.append_eq,List.cons_append,List.nil_append,aAv];refine⟨?z1,?_,?_,?z2,?z3,?z5,?z6,?z7,?z8,?z9,?z10,?z11,?z12,?z13,?z14,?z15,?z16,?z4,trivial⟩
    case z1|z2|z3|z4=>
     intro w' hS;refine yO rfl ?_;have HS:=yH hS;clear hS;go_wp2_with fail;all_goals first|exact HS|exact⟨rfl,HS⟩|rfl|exact⟨by omega,HS.o⟩
    case z5|z6|z7|z8|z9|z10|z11|z12|z13|z14|z15|z16=>
     intro w' hS;refine pAC (by kernel_rfl) rfl hS
    ·intro w' hS;refine yO rfl ?_;have d0_0:=(KX.o.below hS KX.o.lt).cell 0;have d0_1:=(KX.o.below hS KX.o.lt).cell 1;have d0_2:=(KX.o.below hS KX.o.lt).cell 2;have d0_3:=(KX.o.below hS KX.o.lt).cell 3;have d0_4:=(KX.o.below hS KX.o.lt).cell 4;simp at d0_0 d0_1 d0_2 d0_3 d0_4;have HS:=yH hS;clear hS;go_wp2_with fail;all_goals first|exact HS|exact⟨rfl,HS⟩|rfl|exact⟨by omega,HS.o⟩
    intro w' hS;refine yO rfl ?_;have HS:=yH hS;clear hS;go_wp2_with fail;refine(CL.o w' HS.o).mono ?_;rintro e w'' ⟨rfl,hb2⟩;exact⟨rfl,andB HS.o hb2⟩
   intro w6 b6;have B6:=yT B5 b6;clear b6 B5 HL2 KX CL;go_wp2_with fail;refine bodyPost_ret (v:=.tuple #[.pointer none,.int .i64 1]) (by simp[results,Tryz.results65,go_sem]) rfl ?_;exact⟨B6.o,.inr (.inr ⟨rfl,.inr ⟨HP.o,by omega,HB.o⟩⟩)⟩
  have hm:=Decidable.not_not.1 hm
  by_cases hk0:¬0<k
  ·have hs:∀hk0:0<k,(ls[k - 1]'(by omega)).rank<ls[k].rank:=fun h=>absurd h hk0
   have s6:decide (0<(k:Int))=false:=by simp;omega
   have HI:=yH (HP.o.linv HO.o (by rw[List.length_take];omega)).inv;have HN2:=yH (okL.next hkl HO.o hm hs)
   have HN:Hid (Inv (ls.take k)∧ls[k].Fits∧ls[k].li≠0∧setL (ls.take k) ls[k]=ls.take (k+1)):=yH (by
    have hg:=hm.good;have hli:=hg.li;refine⟨HI.o,hg.fits,by omega,?_⟩;have hp:=HN2.o.1;rw[List.take_succ_eq_append_getElem hkl]at hp ⊢;rw[List.pairwise_append]at hp;exact aKr HI.o.sorted (fun y hy=>hp.2.2 y hy _ (by simp)) (by omega))
   clear hs HI;have d0:wr.cell? ⟨bl,ol+(k)*5,none⟩=some (.int .u8 ls[k].cr):=HC.o (k) (by omega) 0 (by omega);have d1:wr.cell? ⟨bl,ol+(k)*5+1,none⟩=some (.int .u8 ls[k].de):=HC.o (k) (by omega) 1 (by omega);have d2:wr.cell? ⟨bl,ol+(k)*5+2,none⟩=some (.int .u8 ls[k].cu):=HC.o (k) (by omega) 2 (by omega);have d3:wr.cell? ⟨bl,ol+(k)*5+3,none⟩=some (.int .i64 ls[k].li):=HC.o (k) (by omega) 3 (by omega);have d4:wr.cell? ⟨bl,ol+(k)*5+4,none⟩=some (.int .i64 ls[k].db):=HC.o (k) (by omega) 4 (by omega);generalize hxe:ls[k]=x at *;clear hxe HC;have bw:=(Below.refl wr.heap.size wr).alloc yL (.cells #[.int .u8 x.cr,.int .u8 x.de,.int .u8 x.cu,.int .i64 x.li,.int .i64 x.db] 71);have B5:=yT B1 bw;have HL2:=yH (H1.o.below bw);have KX:=yH (Blk.new wr #[.int .u8 x.cr,.int .u8 x.de,.int .u8 x.cu,.int .i64 x.li,.int .i64 x.db] 71);clear bw H1 B1;go_wp2_with fail;generalize wr.alloc (.cells #[.int .u8 x.cr,.int .u8 x.de,.int .u8 x.cu,.int .i64 x.li,.int .i64 x.db] 71)=W at *
   have CL:Hid (∀w',Below W.heap.size W w'→Calls Tryz.prog 106 #[.pointer (some ⟨G,0,none⟩),.agg #[.int .u8 x.cr,.int .u8 x.de,.int .u8 x.cu,.int .i64 x.li,.int .i64 x.db]] w' fun e w''=>e=.returned (.bool true)∧Below w'.heap.size w' w''):=yH fun w' k=>by
    have:=aEm (HL2.o.below k).blk HP.o.2 x
    rwa [decide_eq_true hm]at this
   clear hm
   refine aAg (by kernel_rfl) [(.pointer (some ⟨G,0,none⟩)),(.agg #[.int .u8 x.cr,.int .u8 x.de,.int .u8 x.cu,.int .i64 x.li,.int .i64 x.db]),(.bool true),(.bool false),(.bool false),(.int .i64 k),(.bool false),(.bool false),undef,undef,undef,undef,undef,undef,undef,undef,(.bool false),(.bool false)]
    (fun w'=>Below W.heap.size W w') (by kernel_rfl) yZ.drew ?_
   intro af haf;simp only[yG,List.append_eq,List.cons_append,List.nil_append,puts,Act.put,yA,yC,yF,yD,yE]at haf;subst haf;refine⟨?_,?_⟩
   ·simp only[yG,List.append_eq,List.cons_append,List.nil_append,aAv];refine⟨?z17,?_,?_,?z18,?z19,?z21,?z22,?z23,?z25,?z26,?z27,?z28,?z29,?z30,?z31,?z32,?z24,?z20,trivial⟩
    case z17|z18|z19|z20=>
     intro w' hS;refine yO rfl ?_;have HS:=yH hS;clear hS;go_wp2_with fail;all_goals first|exact HS|exact⟨rfl,HS⟩|rfl|exact⟨by omega,HS.o⟩
    case z21|z22|z23|z24=>
     intro w' hS;refine OpTo.wanted ?_ ?_
     kernel_rfl
     have HS:=yH hS;clear hS;go_wp2_with fail;all_goals first|exact HS|exact⟨rfl,HS⟩|rfl|exact⟨by omega,HS.o⟩
    case z25|z26|z27|z28|z29|z30|z31|z32=>
     intro w' hS;refine pAC (by kernel_rfl) rfl hS
    ·intro w' hS;refine yO rfl ?_;have d0_0:=(KX.o.below hS KX.o.lt).cell 0;have d0_1:=(KX.o.below hS KX.o.lt).cell 1;have d0_2:=(KX.o.below hS KX.o.lt).cell 2;have d0_3:=(KX.o.below hS KX.o.lt).cell 3;have d0_4:=(KX.o.below hS KX.o.lt).cell 4;simp at d0_0 d0_1 d0_2 d0_3 d0_4;have HS:=yH hS;clear hS;go_wp2_with fail;all_goals first|exact HS|exact⟨rfl,HS⟩|rfl|exact⟨by omega,HS.o⟩
    intro w' hS;refine yO rfl ?_;have HS:=yH hS;clear hS;go_wp2_with fail;refine(CL.o w' HS.o).mono ?_;rintro e w'' ⟨rfl,hb2⟩;exact⟨rfl,andB HS.o hb2⟩
   intro w6 b6;have B6:=yT B5 b6;have H6:=yH (HL2.o.below b6);have KX6:=yB KX b6;clear b6 B5 HL2 KX CL;have lkx:=KX6.o.lt;have x0:=KX6.o.cell 0;have x1:=KX6.o.cell 1;have x2:=KX6.o.cell 2;have x3:=KX6.o.cell 3;have x4:=KX6.o.cell 4;simp at x0 x1 x2 x3 x4;go_wp2_with fail
   refine aBq (by kernel_rfl) 16 12 [(.pointer (some ⟨G,0,none⟩)),(.pointer (some ⟨G,0,none⟩)),(.pointer (some ⟨G,17,none⟩)),(.map (some M)),(.pointer (some ⟨wr.heap.size,0,none⟩)),(.int .u8 x.cr),(.pointer (some ⟨wr.heap.size,1,none⟩)),(.int .u8 x.de),(.pointer (some ⟨wr.heap.size,2,none⟩)),(.int .u8 x.cu),(.agg #[.int .u8 x.cr,.int .u8 x.de,.int .u8 x.cu]),(.pointer (some ⟨wr.heap.size,3,none⟩)),(.int .i64 x.li),(.pointer (some ⟨wr.heap.size,4,none⟩)),(.int .i64 x.db),(.agg #[.int .i64 x.li,.int .i64 x.db]),undef]
    (fun w'=>Below w6.heap.size w6 w') (by kernel_rfl) rfl (by kernel_rfl) yZ.drew ?_
   intro af haf;simp only[yG,puts,Act.put,yA,yC,yF,yD,yE]at haf;subst haf;refine⟨?_,?_⟩
   ·simp only[yG,List.take_succ_cons,List.take_zero,aAv];refine⟨?z33,?z36,?z37,?z38,?z39,?z40,?z41,?z42,?z43,?z44,?z34,?z45,?z46,?z47,?z48,?z35,trivial⟩
    case z33|z34|z35=>
     intro w' hS;refine yO rfl ?_;have HS:=yH hS;clear hS;go_wp2_with fail;all_goals first|exact HS|exact⟨rfl,HS⟩|rfl
    case z36|z37|z38=>
     intro w' hS;refine yO rfl ?_;have hl:=yM H6.o.blk.lt hS.size;have d:=(H6.o.blk.below hS H6.o.blk.lt).ledMap;have HS:=yH hS;clear hS;go_wp2_with fail;all_goals first|exact HS|exact⟨rfl,HS⟩|rfl
    case z39|z40|z41|z42|z43|z44|z45|z46|z47|z48=>
     intro w' hS;refine yO rfl ?_;have hl0:=yM KX6.o.lt hS.size;have d0_0:=(KX6.o.below hS KX6.o.lt).cell 0;have d0_1:=(KX6.o.below hS KX6.o.lt).cell 1;have d0_2:=(KX6.o.below hS KX6.o.lt).cell 2;have d0_3:=(KX6.o.below hS KX6.o.lt).cell 3;have d0_4:=(KX6.o.below hS KX6.o.lt).cell 4;simp at d0_0 d0_1 d0_2 d0_3 d0_4;have HS:=yH hS;clear hS;go_wp2_with fail;all_goals first|exact HS|exact⟨rfl,HS⟩|rfl
   simp only[yC,yA];intro w' hS;with_reducible refine yO rfl ?_
   obtain⟨w7,hr,hm7,ht7⟩:=(H6.o.map.below hS H6.o.map.lt).store HN.o.1 (x:=x) HN.o.2.1 HN.o.2.2.1;refine aB1 152 (.tmp 72) (.tmp 79) (.tmp 84) rfl rfl rfl rfl hr ⟨rfl,?_⟩
   have HE:=yH (show LedM w7 G M zs (ls.take (k+1))∧Below w.heap.size w w7 from by
    have hk7:=ht7.keep;rw[HN.o.2.2.2]at hm7;exact⟨⟨((H6.o.blk.below hS H6.o.blk.lt)).keep hk7 (fun e=>H6.o.ne e.symm),hm7⟩,(B6.o.trans (hS.mono B6.o.size)).trans (hk7.below (B6.o.trans (hS.mono B6.o.size)).size (fun q hq e=>by have:=HMw.o;omega))⟩)
   clear hr hm7 ht7 hS;go_wp2_with fail;go_roundw
   case rel=>exact⟨k+1,by omega,by go_num,HN2.o,HE.o.1,HE.o.2⟩
   case measure=>simp[intOf];omega
  have hk0:=Decidable.not_not.1 hk0
  by_cases hrk:ls[k].rank≤(ls[k - 1]'(by omega)).rank
  ·skip
   obtain⟨j,rfl⟩:∃j,k=j+1:=⟨k - 1,by omega⟩;generalize hi:((j+1:Nat):Int)=i;have i0:0<i:=by omega
   have i1:i<(ls.length:Int):=by omega
   have i2:i.toNat=j+1:=by omega
   have i3:(i.toNat - 1)=j:=by omega
   have HIi:=yH hi;clear hi;have y0:wr.cell? ⟨bl,ol+((i.toNat - 1))*5,none⟩=some (.int .u8 ls[j].cr):=by rw[i3];exact HC.o (j) (by omega) 0 (by omega)
   have y1:wr.cell? ⟨bl,ol+((i.toNat - 1))*5+1,none⟩=some (.int .u8 ls[j].de):=by rw[i3];exact HC.o (j) (by omega) 1 (by omega)
   have y2:wr.cell? ⟨bl,ol+((i.toNat - 1))*5+2,none⟩=some (.int .u8 ls[j].cu):=by rw[i3];exact HC.o (j) (by omega) 2 (by omega)
   have y3:wr.cell? ⟨bl,ol+((i.toNat - 1))*5+3,none⟩=some (.int .i64 ls[j].li):=by rw[i3];exact HC.o (j) (by omega) 3 (by omega)
   have y4:wr.cell? ⟨bl,ol+((i.toNat - 1))*5+4,none⟩=some (.int .i64 ls[j].db):=by rw[i3];exact HC.o (j) (by omega) 4 (by omega)
   have hord:=aI0 (HF.o ls[j] (List.getElem_mem _)) (HF.o ls[j+1] (List.getElem_mem _));have hrk:ls[j+1].rank≤ls[j].rank:=hrk;have HB:=yH (okL.bad (ps:=zs) hkl (.inr ⟨hk0,hrk⟩));have sv:decide (0≤ordL ls[j] ls[j+1])=true:=by simp;omega
   clear hrk hord;have s6:decide (0<i)=true:=by rw[decide_eq_true_eq];omega
   have d0:wr.cell? ⟨bl,ol+(i.toNat)*5,none⟩=some (.int .u8 ls[j+1].cr):=by rw[i2];exact HC.o (j+1) (by omega) 0 (by omega)
   have d1:wr.cell? ⟨bl,ol+(i.toNat)*5+1,none⟩=some (.int .u8 ls[j+1].de):=by rw[i2];exact HC.o (j+1) (by omega) 1 (by omega)
   have d2:wr.cell? ⟨bl,ol+(i.toNat)*5+2,none⟩=some (.int .u8 ls[j+1].cu):=by rw[i2];exact HC.o (j+1) (by omega) 2 (by omega)
   have d3:wr.cell? ⟨bl,ol+(i.toNat)*5+3,none⟩=some (.int .i64 ls[j+1].li):=by rw[i2];exact HC.o (j+1) (by omega) 3 (by omega)
   have d4:wr.cell? ⟨bl,ol+(i.toNat)*5+4,none⟩=some (.int .i64 ls[j+1].db):=by rw[i2];exact HC.o (j+1) (by omega) 4 (by omega)
   generalize hxe:ls[j+1]=x at *;clear hxe i2 i3;generalize hye:ls[j]=y at *;clear hye;obtain⟨v,hv⟩:∃v,ordL y x=v:=⟨_,rfl⟩;rw[hv]at sv;have bw0:=(Below.refl wr.heap.size wr).alloc yL (.cells #[.int .u8 x.cr,.int .u8 x.de,.int .u8 x.cu,.int .i64 x.li,.int .i64 x.db] 71);have HY0:=yH ((bw0.cell (p:=⟨bl,ol+(i.toNat - 1)*5,none⟩) hbl1).trans y0);have HY1:=yH ((bw0.cell (p:=⟨bl,ol+(i.toNat - 1)*5+1,none⟩) hbl1).trans y1);have HY2:=yH ((bw0.cell (p:=⟨bl,ol+(i.toNat - 1)*5+2,none⟩) hbl1).trans y2);have HY3:=yH ((bw0.cell (p:=⟨bl,ol+(i.toNat - 1)*5+3,none⟩) hbl1).trans y3);have HY4:=yH ((bw0.cell (p:=⟨bl,ol+(i.toNat - 1)*5+4,none⟩) hbl1).trans y4);have HBl:=yH (yM hbl1 bw0.size);clear bw0 HC;have bw:=(Below.refl wr.heap.size wr).alloc yL (.cells #[.int .u8 x.cr,.int .u8 x.de,.int .u8 x.cu,.int .i64 x.li,.int .i64 x.db] 71);have B5:=yT B1 bw;have HL2:=yH (H1.o.below bw);have KX:=yH (Blk.new wr #[.int .u8 x.cr,.int .u8 x.de,.int .u8 x.cu,.int .i64 x.li,.int .i64 x.db] 71);clear bw H1 B1;go_wp2_with fail;generalize wr.alloc (.cells #[.int .u8 x.cr,.int .u8 x.de,.int .u8 x.cu,.int .i64 x.li,.int .i64 x.db] 71)=W at *
   have CL:Hid (∀w',Below W.heap.size W w'→Calls Tryz.prog 106 #[.pointer (some ⟨G,0,none⟩),.agg #[.int .u8 x.cr,.int .u8 x.de,.int .u8 x.cu,.int .i64 x.li,.int .i64 x.db]] w' fun e w''=>e=.returned (.bool true)∧Below w'.heap.size w' w''):=yH fun w' k=>by
    have:=aEm (HL2.o.below k).blk HP.o.2 x
    rwa [decide_eq_true hm]at this
   clear hm
   have CO:Hid (∀w',Calls Tryz.prog 101 #[.agg #[.int .u8 y.cr,.int .u8 y.de,.int .u8 y.cu,.int .i64 y.li,.int .i64 y.db],.agg #[.int .u8 x.cr,.int .u8 x.de,.int .u8 x.cu,.int .i64 x.li,.int .i64 x.db]] w' fun e w''=>e=.returned (.int .i64 v)∧Below w'.heap.size w' w''):=yH fun w'=>by
    refine(aI1 y x w').mono ?_;rintro e w'' ⟨h1,q,os,h2⟩;rw[hv]at h1;subst h2;exact⟨h1,aJ5 _ _ _⟩
   clear hv y0 y1 y2 y3 y4
   refine aAg (by kernel_rfl) [(.pointer (some ⟨G,0,none⟩)),(.agg #[.int .u8 x.cr,.int .u8 x.de,.int .u8 x.cu,.int .i64 x.li,.int .i64 x.db]),(.bool true),(.bool false),(.bool false),(.int .i64 i),(.bool true),(.bool true),(.slice (some ⟨bl,ol,none⟩) ls.length lcap),(.int .i64 i),(.int .i64 (i - 1)),(.pointer (some ⟨bl,ol+(i.toNat - 1)*5,none⟩)),(.agg #[.int .u8 y.cr,.int .u8 y.de,.int .u8 y.cu,.int .i64 y.li,.int .i64 y.db]),(.agg #[.int .u8 x.cr,.int .u8 x.de,.int .u8 x.cu,.int .i64 x.li,.int .i64 x.db]),(.int .i64 v),(.bool true),(.bool true),(.bool true)]
    (fun w'=>Below W.heap.size W w') (by kernel_rfl) yZ.drew ?_
   intro af haf;simp only[yG,List.append_eq,List.cons_append,List.nil_append,puts,Act.put,yA,yC,yF,yD,yE]at haf;subst haf;refine⟨?_,?_⟩
   ·simp only[yG,List.append_eq,List.cons_append,List.nil_append,aAv];refine⟨?z49,?_,?_,?z50,?z51,?z53,?z54,?z55,?z56,?z57,?z58,?z59,?_,?_,?_,?z60,?z61,?z52,trivial⟩
    case z49|z50|z51|z52=>
     intro w' hS;refine yO rfl ?_;have HS:=yH hS;clear hS;go_wp2_with fail;all_goals first|exact HS|exact⟨rfl,HS⟩|rfl|exact⟨by omega,HS.o⟩
    case z53|z54|z55|z56|z57|z58|z59|z60|z61=>
     intro w' hS;refine OpTo.wanted ?_ ?_
     kernel_rfl
     have HS:=yH hS;clear hS;go_wp2_with fail;all_goals first|exact HS|exact⟨rfl,HS⟩|rfl|exact⟨by omega,HS.o⟩
    ·intro w' hS;refine yO rfl ?_;have d0_0:=(KX.o.below hS KX.o.lt).cell 0;have d0_1:=(KX.o.below hS KX.o.lt).cell 1;have d0_2:=(KX.o.below hS KX.o.lt).cell 2;have d0_3:=(KX.o.below hS KX.o.lt).cell 3;have d0_4:=(KX.o.below hS KX.o.lt).cell 4;simp at d0_0 d0_1 d0_2 d0_3 d0_4;have HS:=yH hS;clear hS;go_wp2_with fail;all_goals first|exact HS|exact⟨rfl,HS⟩|rfl|exact⟨by omega,HS.o⟩
    ·intro w' hS;refine yO rfl ?_;have HS:=yH hS;clear hS;go_wp2_with fail;refine(CL.o w' HS.o).mono ?_;rintro e w'' ⟨rfl,hb2⟩;exact⟨rfl,andB HS.o hb2⟩
    ·intro w' hS;refine OpTo.wanted ?_ ?_
     kernel_rfl
     have hlt:=yM HBl.o hS.size;have e0:=(hS.cell (p:=⟨bl,ol+(i.toNat - 1)*5,none⟩) HBl.o).trans HY0.o;have e1:=(hS.cell (p:=⟨bl,ol+(i.toNat - 1)*5+1,none⟩) HBl.o).trans HY1.o;have e2:=(hS.cell (p:=⟨bl,ol+(i.toNat - 1)*5+2,none⟩) HBl.o).trans HY2.o;have e3:=(hS.cell (p:=⟨bl,ol+(i.toNat - 1)*5+3,none⟩) HBl.o).trans HY3.o;have e4:=(hS.cell (p:=⟨bl,ol+(i.toNat - 1)*5+4,none⟩) HBl.o).trans HY4.o;have HS:=yH hS;clear hS;go_wp2_with fail;all_goals first|exact HS|exact⟨rfl,HS⟩|rfl|exact⟨by omega,HS.o⟩
    ·intro w' hS;refine OpTo.wanted ?_ ?_
     kernel_rfl
     have d0_0:=(KX.o.below hS KX.o.lt).cell 0;have d0_1:=(KX.o.below hS KX.o.lt).cell 1;have d0_2:=(KX.o.below hS KX.o.lt).cell 2;have d0_3:=(KX.o.below hS KX.o.lt).cell 3;have d0_4:=(KX.o.below hS KX.o.lt).cell 4;simp at d0_0 d0_1 d0_2 d0_3 d0_4;have HS:=yH hS;clear hS;go_wp2_with fail;all_goals first|exact HS|exact⟨rfl,HS⟩|rfl|exact⟨by omega,HS.o⟩
    intro w' hS;refine OpTo.wanted ?_ ?_
    kernel_rfl
    have HS:=yH hS;clear hS;go_wp2_with fail;refine(CO.o w').mono ?_;rintro e w'' ⟨rfl,hb2⟩;exact⟨rfl,andB HS.o hb2⟩
   intro w6 b6;have B6:=yT B5 b6;clear b6 B5 HL2 KX CL;go_wp2_with fail;refine bodyPost_ret (v:=.tuple #[.pointer none,.int .i64 1]) (by simp[results,Tryz.results65,go_sem]) rfl ?_;exact⟨B6.o,.inr (.inr ⟨rfl,.inr ⟨HP.o,by omega,HB.o⟩⟩)⟩
  have hs:∀hk0:0<k,(ls[k - 1]'(by omega)).rank<ls[k].rank:=fun _=>by omega
  clear hrk;obtain⟨j,rfl⟩:∃j,k=j+1:=⟨k - 1,by omega⟩;generalize hi:((j+1:Nat):Int)=i;have i0:0<i:=by omega
  have i1:i<(ls.length:Int):=by omega
  have i2:i.toNat=j+1:=by omega
  have i3:(i.toNat - 1)=j:=by omega
  have HIi:=yH hi;clear hi;have y0:wr.cell? ⟨bl,ol+((i.toNat - 1))*5,none⟩=some (.int .u8 ls[j].cr):=by rw[i3];exact HC.o (j) (by omega) 0 (by omega)
  have y1:wr.cell? ⟨bl,ol+((i.toNat - 1))*5+1,none⟩=some (.int .u8 ls[j].de):=by rw[i3];exact HC.o (j) (by omega) 1 (by omega)
  have y2:wr.cell? ⟨bl,ol+((i.toNat - 1))*5+2,none⟩=some (.int .u8 ls[j].cu):=by rw[i3];exact HC.o (j) (by omega) 2 (by omega)
  have y3:wr.cell? ⟨bl,ol+((i.toNat - 1))*5+3,none⟩=some (.int .i64 ls[j].li):=by rw[i3];exact HC.o (j) (by omega) 3 (by omega)
  have y4:wr.cell? ⟨bl,ol+((i.toNat - 1))*5+4,none⟩=some (.int .i64 ls[j].db):=by rw[i3];exact HC.o (j) (by omega) 4 (by omega)
  have hord:=aI0 (HF.o ls[j] (List.getElem_mem _)) (HF.o ls[j+1] (List.getElem_mem _));have hrk:ls[j].rank<ls[j+1].rank:=by have:=hs hk0;exact this
  have HI:=yH (HP.o.linv HO.o (by rw[List.length_take];omega)).inv;have HN2:=yH (okL.next hkl HO.o hm hs)
  have HN:Hid (Inv (ls.take (j+1))∧ls[j+1].Fits∧ls[j+1].li≠0∧setL (ls.take (j+1)) ls[j+1]=ls.take (j+1+1)):=yH (by
   have hg:=hm.good;have hli:=hg.li;refine⟨HI.o,hg.fits,by omega,?_⟩;have hp:=HN2.o.1;rw[List.take_succ_eq_append_getElem hkl]at hp ⊢;rw[List.pairwise_append]at hp;exact aKr HI.o.sorted (fun y hy=>hp.2.2 y hy _ (by simp)) (by omega))
  have sv:decide (0≤ordL ls[j] ls[j+1])=false:=by simp;omega
  clear hrk hord hs HI;have s6:decide (0<i)=true:=by rw[decide_eq_true_eq];omega
  have d0:wr.cell? ⟨bl,ol+(i.toNat)*5,none⟩=some (.int .u8 ls[j+1].cr):=by rw[i2];exact HC.o (j+1) (by omega) 0 (by omega)
  have d1:wr.cell? ⟨bl,ol+(i.toNat)*5+1,none⟩=some (.int .u8 ls[j+1].de):=by rw[i2];exact HC.o (j+1) (by omega) 1 (by omega)
  have d2:wr.cell? ⟨bl,ol+(i.toNat)*5+2,none⟩=some (.int .u8 ls[j+1].cu):=by rw[i2];exact HC.o (j+1) (by omega) 2 (by omega)
  have d3:wr.cell? ⟨bl,ol+(i.toNat)*5+3,none⟩=some (.int .i64 ls[j+1].li):=by rw[i2];exact HC.o (j+1) (by omega) 3 (by omega)
  have d4:wr.cell? ⟨bl,ol+(i.toNat)*5+4,none⟩=some (.int .i64 ls[j+1].db):=by rw[i2];exact HC.o (j+1) (by omega) 4 (by omega)
  generalize hxe:ls[j+1]=x at *;clear hxe i2 i3;generalize hye:ls[j]=y at *;clear hye;obtain⟨v,hv⟩:∃v,ordL y x=v:=⟨_,rfl⟩;rw[hv]at sv;have bw0:=(Below.refl wr.heap.size wr).alloc yL (.cells #[.int .u8 x.cr,.int .u8 x.de,.int .u8 x.cu,.int .i64 x.li,.int .i64 x.db] 71);have HY0:=yH ((bw0.cell (p:=⟨bl,ol+(i.toNat - 1)*5,none⟩) hbl1).trans y0);have HY1:=yH ((bw0.cell (p:=⟨bl,ol+(i.toNat - 1)*5+1,none⟩) hbl1).trans y1);have HY2:=yH ((bw0.cell (p:=⟨bl,ol+(i.toNat - 1)*5+2,none⟩) hbl1).trans y2);have HY3:=yH ((bw0.cell (p:=⟨bl,ol+(i.toNat - 1)*5+3,none⟩) hbl1).trans y3);have HY4:=yH ((bw0.cell (p:=⟨bl,ol+(i.toNat - 1)*5+4,none⟩) hbl1).trans y4);have HBl:=yH (yM hbl1 bw0.size);clear bw0 HC;have bw:=(Below.refl wr.heap.size wr).alloc yL (.cells #[.int .u8 x.cr,.int .u8 x.de,.int .u8 x.cu,.int .i64 x.li,.int .i64 x.db] 71);have B5:=yT B1 bw;have HL2:=yH (H1.o.below bw);have KX:=yH (Blk.new wr #[.int .u8 x.cr,.int .u8 x.de,.int .u8 x.cu,.int .i64 x.li,.int .i64 x.db] 71);clear bw H1 B1;go_wp2_with fail;generalize wr.alloc (.cells #[.int .u8 x.cr,.int .u8 x.de,.int .u8 x.cu,.int .i64 x.li,.int .i64 x.db] 71)=W at *
  have CL:Hid (∀w',Below W.heap.size W w'→Calls Tryz.prog 106 #[.pointer (some ⟨G,0,none⟩),.agg #[.int .u8 x.cr,.int .u8 x.de,.int .u8 x.cu,.int .i64 x.li,.int .i64 x.db]] w' fun e w''=>e=.returned (.bool true)∧Below w'.heap.size w' w''):=yH fun w' k=>by
   have:=aEm (HL2.o.below k).blk HP.o.2 x
   rwa [decide_eq_true hm]at this
  clear hm
  have CO:Hid (∀w',Calls Tryz.prog 101 #[.agg #[.int .u8 y.cr,.int .u8 y.de,.int .u8 y.cu,.int .i64 y.li,.int .i64 y.db],.agg #[.int .u8 x.cr,.int .u8 x.de,.int .u8 x.cu,.int .i64 x.li,.int .i64 x.db]] w' fun e w''=>e=.returned (.int .i64 v)∧Below w'.heap.size w' w''):=yH fun w'=>by
   refine(aI1 y x w').mono ?_;rintro e w'' ⟨h1,q,os,h2⟩;rw[hv]at h1;subst h2;exact⟨h1,aJ5 _ _ _⟩
  clear hv y0 y1 y2 y3 y4
  refine aAg (by kernel_rfl) [(.pointer (some ⟨G,0,none⟩)),(.agg #[.int .u8 x.cr,.int .u8 x.de,.int .u8 x.cu,.int .i64 x.li,.int .i64 x.db]),(.bool true),(.bool false),(.bool false),(.int .i64 i),(.bool true),(.bool true),(.slice (some ⟨bl,ol,none⟩) ls.length lcap),(.int .i64 i),(.int .i64 (i - 1)),(.pointer (some ⟨bl,ol+(i.toNat - 1)*5,none⟩)),(.agg #[.int .u8 y.cr,.int .u8 y.de,.int .u8 y.cu,.int .i64 y.li,.int .i64 y.db]),(.agg #[.int .u8 x.cr,.int .u8 x.de,.int .u8 x.cu,.int .i64 x.li,.int .i64 x.db]),(.int .i64 v),(.bool false),(.bool false),(.bool false)]
   (fun w'=>Below W.heap.size W w') (by kernel_rfl) yZ.drew ?_
  intro af haf;simp only[yG,List.append_eq,List.cons_append,List.nil_append,puts,Act.put,yA,yC,yF,yD,yE]at haf;subst haf;refine⟨?_,?_⟩
  ·simp only[yG,List.append_eq,List.cons_append,List.nil_append,aAv];refine⟨?z62,?_,?_,?z63,?z64,?z66,?z67,?z68,?z69,?z70,?z71,?z72,?_,?_,?_,?z73,?z74,?z65,trivial⟩
   case z62|z63|z64|z65=>
    intro w' hS;refine yO rfl ?_;have HS:=yH hS;clear hS;go_wp2_with fail;all_goals first|exact HS|exact⟨rfl,HS⟩|rfl|exact⟨by omega,HS.o⟩
   case z66|z67|z68|z69|z70|z71|z72|z73|z74=>
    intro w' hS;refine OpTo.wanted ?_ ?_
    kernel_rfl
    have HS:=yH hS;clear hS;go_wp2_with fail;all_goals first|exact HS|exact⟨rfl,HS⟩|rfl|exact⟨by omega,HS.o⟩
   ·intro w' hS;refine yO rfl ?_;have d0_0:=(KX.o.below hS KX.o.lt).cell 0;have d0_1:=(KX.o.below hS KX.o.lt).cell 1;have d0_2:=(KX.o.below hS KX.o.lt).cell 2;have d0_3:=(KX.o.below hS KX.o.lt).cell 3;have d0_4:=(KX.o.below hS KX.o.lt).cell 4;simp at d0_0 d0_1 d0_2 d0_3 d0_4;have HS:=yH hS;clear hS;go_wp2_with fail;all_goals first|exact HS|exact⟨rfl,HS⟩|rfl|exact⟨by omega,HS.o⟩
   ·intro w' hS;refine yO rfl ?_;have HS:=yH hS;clear hS;go_wp2_with fail;refine(CL.o w' HS.o).mono ?_;rintro e w'' ⟨rfl,hb2⟩;exact⟨rfl,andB HS.o hb2⟩
   ·intro w' hS;refine OpTo.wanted ?_ ?_
    kernel_rfl
    have hlt:=yM HBl.o hS.size;have e0:=(hS.cell (p:=⟨bl,ol+(i.toNat - 1)*5,none⟩) HBl.o).trans HY0.o;have e1:=(hS.cell (p:=⟨bl,ol+(i.toNat - 1)*5+1,none⟩) HBl.o).trans HY1.o;have e2:=(hS.cell (p:=⟨bl,ol+(i.toNat - 1)*5+2,none⟩) HBl.o).trans HY2.o;have e3:=(hS.cell (p:=⟨bl,ol+(i.toNat - 1)*5+3,none⟩) HBl.o).trans HY3.o;have e4:=(hS.cell (p:=⟨bl,ol+(i.toNat - 1)*5+4,none⟩) HBl.o).trans HY4.o;have HS:=yH hS;clear hS;go_wp2_with fail;all_goals first|exact HS|exact⟨rfl,HS⟩|rfl|exact⟨by omega,HS.o⟩
   ·intro w' hS;refine OpTo.wanted ?_ ?_
    kernel_rfl
    have d0_0:=(KX.o.below hS KX.o.lt).cell 0;have d0_1:=(KX.o.below hS KX.o.lt).cell 1;have d0_2:=(KX.o.below hS KX.o.lt).cell 2;have d0_3:=(KX.o.below hS KX.o.lt).cell 3;have d0_4:=(KX.o.below hS KX.o.lt).cell 4;simp at d0_0 d0_1 d0_2 d0_3 d0_4;have HS:=yH hS;clear hS;go_wp2_with fail;all_goals first|exact HS|exact⟨rfl,HS⟩|rfl|exact⟨by omega,HS.o⟩
   intro w' hS;refine OpTo.wanted ?_ ?_
   kernel_rfl
   have HS:=yH hS;clear hS;go_wp2_with fail;refine(CO.o w').mono ?_;rintro e w'' ⟨rfl,hb2⟩;exact⟨rfl,andB HS.o hb2⟩
  intro w6 b6;have B6:=yT B5 b6;have H6:=yH (HL2.o.below b6);have KX6:=yB KX b6;clear b6 B5 HL2 KX CL;have lkx:=KX6.o.lt;have x0:=KX6.o.cell 0;have x1:=KX6.o.cell 1;have x2:=KX6.o.cell 2;have x3:=KX6.o.cell 3;have x4:=KX6.o.cell 4;simp at x0 x1 x2 x3 x4;go_wp2_with fail
  refine aBq (by kernel_rfl) 16 12 [(.pointer (some ⟨G,0,none⟩)),(.pointer (some ⟨G,0,none⟩)),(.pointer (some ⟨G,17,none⟩)),(.map (some M)),(.pointer (some ⟨wr.heap.size,0,none⟩)),(.int .u8 x.cr),(.pointer (some ⟨wr.heap.size,1,none⟩)),(.int .u8 x.de),(.pointer (some ⟨wr.heap.size,2,none⟩)),(.int .u8 x.cu),(.agg #[.int .u8 x.cr,.int .u8 x.de,.int .u8 x.cu]),(.pointer (some ⟨wr.heap.size,3,none⟩)),(.int .i64 x.li),(.pointer (some ⟨wr.heap.size,4,none⟩)),(.int .i64 x.db),(.agg #[.int .i64 x.li,.int .i64 x.db]),undef]
   (fun w'=>Below w6.heap.size w6 w') (by kernel_rfl) rfl (by kernel_rfl) yZ.drew ?_
  intro af haf;simp only[yG,puts,Act.put,yA,yC,yF,yD,yE]at haf;subst haf;refine⟨?_,?_⟩
  ·simp only[yG,List.take_succ_cons,List.take_zero,aAv];refine⟨?z75,?z78,?z79,?z80,?z81,?z82,?z83,?z84,?z85,?z86,?z76,?z87,?z88,?z89,?z90,?z77,trivial⟩
   case z75|z76|z77=>
    intro w' hS;refine yO rfl ?_;have HS:=yH hS;clear hS;go_wp2_with fail;all_goals first|exact HS|exact⟨rfl,HS⟩|rfl
   case z78|z79|z80=>
    intro w' hS;refine yO rfl ?_;have hl:=yM H6.o.blk.lt hS.size;have d:=(H6.o.blk.below hS H6.o.blk.lt).ledMap;have HS:=yH hS;clear hS;go_wp2_with fail;all_goals first|exact HS|exact⟨rfl,HS⟩|rfl
   case z81|z82|z83|z84|z85|z86|z87|z88|z89|z90=>
    intro w' hS;refine yO rfl ?_;have hl0:=yM KX6.o.lt hS.size;have d0_0:=(KX6.o.below hS KX6.o.lt).cell 0;have d0_1:=(KX6.o.below hS KX6.o.lt).cell 1;have d0_2:=(KX6.o.below hS KX6.o.lt).cell 2;have d0_3:=(KX6.o.below hS KX6.o.lt).cell 3;have d0_4:=(KX6.o.below hS KX6.o.lt).cell 4;simp at d0_0 d0_1 d0_2 d0_3 d0_4;have HS:=yH hS;clear hS;go_wp2_with fail;all_goals first|exact HS|exact⟨rfl,HS⟩|rfl
  simp only[yC,yA];intro w' hS;with_reducible refine yO rfl ?_
  obtain⟨w7,hr,hm7,ht7⟩:=(H6.o.map.below hS H6.o.map.lt).store HN.o.1 (x:=x) HN.o.2.1 HN.o.2.2.1;refine aB1 152 (.tmp 72) (.tmp 79) (.tmp 84) rfl rfl rfl rfl hr ⟨rfl,?_⟩
  have HE:=yH (show LedM w7 G M zs (ls.take (j+1+1))∧Below w.heap.size w w7 from by
   have hk7:=ht7.keep;rw[HN.o.2.2.2]at hm7;exact⟨⟨((H6.o.blk.below hS H6.o.blk.lt)).keep hk7 (fun e=>H6.o.ne e.symm),hm7⟩,(B6.o.trans (hS.mono B6.o.size)).trans (hk7.below (B6.o.trans (hS.mono B6.o.size)).size (fun q hq e=>by have:=HMw.o;omega))⟩)
  clear hr hm7 ht7 hS;go_wp2_with fail;go_roundw
  case rel=>exact⟨j+1+1,by omega,by have:=HIi.o;first|go_num|(congr 1;omega),HN2.o,HE.o.1,HE.o.2⟩
  case measure=>have:=HIi.o;simp[intOf];omega
 rw[List.take_of_length_le (by omega)]at HO H1;go_wp2_with fail;refine bodyPost_ret (v:=.tuple #[.pointer (some ⟨G,0,none⟩),.int .i64 0]) (by simp[results,Tryz.results65,go_sem]) rfl ?_;exact⟨B1.o,.inl ⟨HP.o,h64,HO.o,G,M,by omega,by omega,rfl,H1.o⟩⟩
end Go.Proofs.YtngnfdnfpiiclaaGreat
namespace Go.Proofs.YtngnfdnfpiiclaaGreat
open Go.RowKit
open Classical in
noncomputable def mofE(σ:Hs):Int:=if ¬okP σ.ps then 1 else if 64<σ.ls.length then 9 else if ¬okL σ.ps σ.ls then 1 else if 32<σ.l.length then 9 else if ¬(okO σ.N σ.l∧σ.N≠0)then 1 else if ∃o∈σ.l,o.ow∉σ.ps then 1 else 0
def MOfPost(w:World)(σ:Hs)(e:Ending)(w':World):Prop:=
 Below w.heap.size w w'∧((mofE σ=0∧∃k,e=.returned (.tuple #[.pointer (some ⟨k,0,none⟩),.int .i64 0])∧w.heap.size≤k∧MIs (fun _=>True) w' k σ)∨(mofE σ≠0∧e=.returned (.tuple #[.pointer none,.int .i64 (mofE σ)])))
def OhAt(W:World)(l:List Of)(ps:List Int)(i:Value)(wr:World):Prop:=∃k:Nat,k≤l.length∧i=.int .i64 k∧(∀o∈l.take k,o.ow∈ps)∧Below W.heap.size W wr
open Classical in
theorem mof_any{w:World}{σ:Hs}{vp vl vo:Value}(h:aEj w σ vp vl vo)(h8:∀p∈σ.ps,In8 p)(hf:∀x∈σ.ls,x.Fits)(hfo:∀x∈σ.l,x.Fits)(h0:0≤σ.N)(h1:σ.N≤18446744073709551615)(hll:σ.l.length≤100000000):
  Calls Tryz.prog 32 #[.agg #[vp,vl,vo,.int .u64 σ.N]] w (MOfPost w σ):=by
 obtain⟨ps,ls,l,N⟩:=σ;dsimp only at *;have b1:=(Below.refl w.heap.size w).alloc yL (.cells #[vp,vl,vo,.int .u64 N] 46);have KX:=yH (Blk.new w #[vp,vl,vo,.int .u64 N] 46);have B1:=yH b1;have HO:=yH (h.o.below b1);have CL:=yH (pof_any (h.p.below b1) (h.l.below b1) h8 hf);have CB:=yH (fun w' (k:Below w.heap.size w w')=>pofB_any (nx:=N) (h.o.below k) hfo h0 h1);have HN:=yH hll;clear h h8 hf hfo h0 h1 hll b1;obtain⟨oo,oc,rfl⟩:=HO.o.shape;go_enter Tryz.func32,Tryz.ntmps32
 go_upto_region 1 with fail
 generalize w.alloc (.cells #[vp,vl,.slice oo l.length oc,.int .u64 N] 46)=W at *;have x0:=KX.o.cell 0;have x1:=KX.o.cell 1;have xl:=KX.o.lt;simp at x0 x1;go_wp2_with fail;refine CL.o.mono ?_;rintro e w1 ⟨b2,h⟩;clear CL x0 x1 xl;have B2:=yT B1 b2;have KX2:=yB KX b2;have HO2:=yH (HO.o.below b2);have hWs:Hid (W.heap.size≤w1.heap.size):=yH b2.size;clear b2;rcases h with⟨hp,h64,hL,G,M,hG,hM,rfl,led⟩|⟨rfl,hp,h64⟩|⟨rfl,hb⟩
 ·have LD:=yH led;have OKP:=yH hp
  have EE:Hid (mofE ⟨ps,ls,l,N⟩=if 32<l.length then 9 else if ¬(okO N l∧N≠0)then 1 else if ∃o∈l,o.ow∉ps then 1 else 0):=yH (by
   unfold mofE;rw[if_neg (by simpa using hp),if_neg (by simpa using h64),if_neg (by simpa using hL)])
  clear hp h64 hL hG hM led;have x2:=KX2.o.cell 2;have x3:=KX2.o.cell 3;have xl:=KX2.o.lt;simp at x2 x3;go_wp2_with fail;refine(CB.o w1 B2.o).mono ?_;rintro e w2 ⟨b3,h⟩;clear CB x2 x3 xl;have B3:=yT B2 b3;have KX3:=yB KX2 b3;have HO3:=yH (HO2.o.below b3);have LD3:=yH (LD.o.below b3);clear b3;rcases h with⟨h32,hO,hN,gb,vb,rfl,pb⟩|⟨rfl,h32⟩|⟨rfl,h32,hb⟩
  ·have PB3:=yH pb
   have EF:Hid (mofE ⟨ps,ls,l,N⟩=if ∃o∈l,o.ow∉ps then 1 else 0):=yH (by
    rw[EE.o,if_neg (by omega),if_neg (fun q=>q ⟨hO,hN⟩)])
   clear h32 hO hN pb EE;have x2:=KX3.o.cell 2;have xl:=KX3.o.lt;simp at x2;go_wp2_with fail;clear x2 xl
   go_loopw [34] (OhAt w2 l ps) (fun i _=>l.length - (intOf i).toNat)
   case atStart=>exact⟨0,Nat.zero_le _,rfl,(fun o ho=>by cases ho),yZ⟩
   obtain⟨k,hk,rfl,hal,hb⟩:=hrel;have BW:=yH hb;have hl100:=HN.o
   by_cases hkl:k<l.length
   ·have hki:(k:Int)<(l.length:Int):=by omega
    have hk0:(0:Int)≤(k:Int):=by omega
    have q1:decide ((k:Int)<(l.length:Int))=true:=by simpa using hkl
    obtain⟨b,off,rfl,hbl,hc⟩:=HO3.o.row hb hkl (by decide);have e0:=(hc 0 (by decide)).trans (aAf l k 0 (by decide) hkl);have e1:=(hc 1 (by decide)).trans (aAf l k 1 (by decide) hkl);have e2:=(hc 2 (by decide)).trans (aAf l k 2 (by decide) hkl);have e3:=(hc 3 (by decide)).trans (aAf l k 3 (by decide) hkl);have e4:=(hc 4 (by decide)).trans (aAf l k 4 (by decide) hkl);have e5:=(hc 5 (by decide)).trans (aAf l k 5 (by decide) hkl);have e6:=(hc 6 (by decide)).trans (aAf l k 6 (by decide) hkl);have HK:=yH hkl;have MM1:=yH (List.getElem_mem hkl)
    have AL:Hid (l[k].ow∈ps→∀o∈l.take (k+1),o.ow∈ps):=yH (fun h o ho=>by
     rw[List.take_succ_eq_append_getElem hkl]at ho;rcases List.mem_append.1 ho with ho|ho
     ·exact hal o ho
     rw[List.mem_singleton]at ho;rw[ho];exact h)
    clear hc hb hk hal;generalize l[k]=y at *;simp[Of.vals]at e0 e1 e2 e3 e4 e5 e6;clear hkl;have KY:=yH (show Blk ((wr.alloc (.cells #[.int .u64 0,.int .u8 0,.int .u8 0,.int .u8 0,.int .i64 0,.int .i64 0,.int .i64 0] 75)).setRow wr.heap.size #[.int .u64 y.se,.int .u8 y.ow,.int .u8 y.sl,.int .u8 y.bu,.int .i64 y.lf,.int .i64 y.nu,.int .i64 y.de]) wr.heap.size #[.int .u64 y.se,.int .u8 y.ow,.int .u8 y.sl,.int .u8 y.bu,.int .i64 y.lf,.int .i64 y.nu,.int .i64 y.de] 75 from(Blk.new wr #[.int .u64 0,.int .u8 0,.int .u8 0,.int .u8 0,.int .i64 0,.int .i64 0,.int .i64 0] 75).row);have BY:=yH (below_setRow ((Below.refl wr.heap.size wr).alloc yL (.cells #[.int .u64 0,.int .u8 0,.int .u8 0,.int .u8 0,.int .i64 0,.int .i64 0,.int .i64 0] 75)) (Nat.le_refl wr.heap.size) #[.int .u64 y.se,.int .u8 y.ow,.int .u8 y.sl,.int .u8 y.bu,.int .i64 y.lf,.int .i64 y.nu,.int .i64 y.de])
    go_upto_region 10 with(refine aAb rfl 75 (.tmp 8) (.tmp 37) rfl wr.heap.size #[.int .u64 y.se,.int .u8 y.ow,.int .u8 y.sl,.int .u8 y.bu,.int .i64 y.lf,.int .i64 y.nu,.int .i64 y.de] rfl rfl 75 _ (Blk.new wr #[.int .u64 0,.int .u8 0,.int .u8 0,.int .u8 0,.int .i64 0,.int .i64 0,.int .i64 0] 75).out (by kernel_rfl) rfl (by simp[Value.oneCell']) ?_)
    generalize (wr.alloc (.cells #[.int .u64 0,.int .u8 0,.int .u8 0,.int .u8 0,.int .i64 0,.int .i64 0,.int .i64 0] 75)).setRow wr.heap.size #[.int .u64 y.se,.int .u8 y.ow,.int .u8 y.sl,.int .u8 y.bu,.int .i64 y.lf,.int .i64 y.nu,.int .i64 y.de]=w4 at *;have y1:=KY.o.cell 1;have yl:=KY.o.lt;simp at y1;have B4:=yH (andB BW.o BY.o);have LD4:=yH (LD3.o.below B4.o);clear e0 e1 e2 e3 e4 e5 e6 BY;go_wp2_with fail;clear y1 yl;refine(aEd LD4.o.blk OKP.o.2 y.ow).mono ?_;rintro e w5 ⟨rfl,rfl⟩
    by_cases hy:y.ow∈ps
    ·have r1:decide (y.ow∈ps)=true:=by simpa using hy
     have AA:=yH (AL.o hy);clear hy;go_wp2_with fail;have hkl:=HK.o;exact⟨⟨k+1,by omega,by go_num,AA.o,B4.o⟩,by simp[intOf];omega⟩
    have r1:decide (y.ow∈ps)=false:=by simpa using hy
    have EZ:Hid (mofE ⟨ps,ls,l,N⟩=1):=yH (by rw[EF.o,if_pos ⟨y,MM1.o,hy⟩]);clear hy;go_wp2_with fail;refine bodyPost_ret (v:=.tuple #[.pointer none,.int .i64 1]) (by simp[results,Tryz.results32,go_sem]) rfl ?_;exact⟨andB B3.o B4.o,.inr ⟨by rw[EZ.o];decide,by rw[EZ.o]⟩⟩
   have hkn:k=l.length:=by omega
   subst hkn;have q1:decide (((l.length:Nat):Int)<(l.length:Int))=false:=by simp
   rw[List.take_length]at hal;have EZ:Hid (mofE ⟨ps,ls,l,N⟩=0):=yH (by rw[EF.o,if_neg (by rintro⟨o,ho,hn⟩;exact hn (hal o ho))]);have LD4:=yH (LD3.o.below hb);have PB4:=yH (PB3.o.below hb);clear hkl hk hb hal;go_wp2_with fail;have bz:=(Below.refl wr.heap.size wr).alloc yL (.cells #[.pointer (some ⟨G,0,none⟩),.pointer (some ⟨gb,0,none⟩)] 82);have KM:=yH (Blk.new wr #[.pointer (some ⟨G,0,none⟩),.pointer (some ⟨gb,0,none⟩)] 82);refine bodyPost_ret (v:=.tuple #[.pointer (some ⟨wr.heap.size,0,none⟩),.int .i64 0]) (by simp[results,Tryz.results32,go_sem]) rfl ?_;refine⟨andB (andB B3.o BW.o) bz,.inl ⟨EZ.o,_,rfl,?_,G,M,gb,vb,KM.o,LD4.o.below bz,(PB4.o.below bz).down12 (Nat.zero_le _),trivial,trivial,trivial,fun _ _=>trivial⟩⟩;exact Nat.le_trans B3.o.size BW.o.size
  ·have EF:Hid (mofE ⟨ps,ls,l,N⟩=9):=yH (by rw[EE.o,if_pos h32]);clear h32 EE;go_wp2_with fail;refine bodyPost_ret (v:=.tuple #[.pointer none,.int .i64 9]) (by simp[results,Tryz.results32,go_sem]) rfl ?_;exact⟨B3.o,.inr ⟨by rw[EF.o];decide,by rw[EF.o]⟩⟩
  have EF:Hid (mofE ⟨ps,ls,l,N⟩=1):=yH (by rw[EE.o,if_neg (by omega),if_pos hb]);clear h32 hb EE;go_wp2_with fail;refine bodyPost_ret (v:=.tuple #[.pointer none,.int .i64 1]) (by simp[results,Tryz.results32,go_sem]) rfl ?_;exact⟨B3.o,.inr ⟨by rw[EF.o];decide,by rw[EF.o]⟩⟩
 ·have EF:Hid (mofE ⟨ps,ls,l,N⟩=9):=yH (by unfold mofE;rw[if_neg (by simpa using hp),if_pos h64]);clear hp h64;go_wp2_with fail;refine bodyPost_ret (v:=.tuple #[.pointer none,.int .i64 9]) (by simp[results,Tryz.results32,go_sem]) rfl ?_;exact⟨B2.o,.inr ⟨by rw[EF.o];decide,by rw[EF.o]⟩⟩
 have EF:Hid (mofE ⟨ps,ls,l,N⟩=1):=yH (by
  unfold mofE;rcases hb with hb|⟨hp,h64,hL⟩
  ·rw[if_pos hb]
  rw[if_neg (by simpa using hp),if_neg (by simpa using h64),if_pos hL])
 clear hb;go_wp2_with fail;refine bodyPost_ret (v:=.tuple #[.pointer none,.int .i64 1]) (by simp[results,Tryz.results32,go_sem]) rfl ?_;exact⟨B2.o,.inr ⟨by rw[EF.o];decide,by rw[EF.o]⟩⟩
end Go.Proofs.YtngnfdnfpiiclaaGreat
