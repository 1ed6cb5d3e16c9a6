/- Pieces of one proof. -/
import Derived.Test.YtngnfdnfpiiclaaGreatT16
set_option linter.all false
set_option maxHeartbeats 64000000
set_option maxRecDepth 100000
namespace Go.Proofs.YtngnfdnfpiiclaaGreat
open Go.RowKit
theorem aOu(w:World)(q:Nat)(os:Array Obj):Below w.heap.size w (Go.Sort.grow (w.drewN q) os):=by
 refine⟨rfl,rfl,rfl,by simp[Go.Sort.grow],fun k hk=>?_⟩;rw[Go.Sort.heap_grow_old _ _ wK];rfl
theorem aBm.atP{w:World}{v:Value}{zs:List Int}(h:aBm w v 1 zs.length (zs.map (.int .u8))):
  ∃(ao:Option Addr) (cap:Nat),v=.slice ao zs.length cap∧zs.length≤100000000∧∀k,k<zs.length→∃b off,ao=some ⟨b,off,none⟩∧b<w.heap.size∧∀j (hj:j<zs.length),w.cell? ⟨b,off+j,none⟩=some (.int .u8 zs[j]):=by
 obtain⟨ao,cap,rfl,h1,h2,h3⟩:=h;refine⟨ao,cap,rfl,h1,fun k hk=>?_⟩;obtain⟨b,off,rfl,hb,hc⟩:=h3 zQ;exact⟨b,off,rfl,hb,fun j hj=>by rw[hc j zQ];simp[hj]⟩
theorem aBm.atL{w:World}{v:Value}{ls:List Ln}(h:aBm w v 5 ls.length (aA9 ls)):
  ∃(ao:Option Addr) (cap:Nat),v=.slice ao ls.length cap∧ls.length≤100000000∧∀k,k<ls.length→∃b off,ao=some ⟨b,off,none⟩∧b<w.heap.size∧∀j (hj:j<ls.length) i,i<5→w.cell? ⟨b,off+j*5+i,none⟩=ls[j].vals[i]? := by
 obtain⟨ao,cap,rfl,h1,h2,h3⟩:=h;refine⟨ao,cap,rfl,h1,fun k hk=>?_⟩;obtain⟨b,off,rfl,hb,hc⟩:=h3 zQ;exact⟨b,off,rfl,hb,fun j hj i hi=>by rw[Nat.add_assoc,hc (j*5+i) zQ,aA5 ls j i hi hj]⟩
def OfPost(w:World)(zs:List Int)(ls:List Ln)(e:Ending)(w':World):Prop:=
 Below w.heap.size w w'∧((okP zs∧ls.length≤64∧okL zs ls∧∃g m,w.heap.size≤g∧w.heap.size≤m∧e=.returned (.tuple #[.pointer (some ⟨g,0,none⟩),.int .i64 0])∧LedM w' g m zs ls)∨
  (e=.returned (.tuple #[.pointer none,.int .i64 9])∧okP zs∧64<ls.length)∨
  (e=.returned (.tuple #[.pointer none,.int .i64 1])∧(¬okP zs∨(okP zs∧ls.length≤64∧¬okL zs ls))))
def OfAtL1(w:World)(G M:Nat)(zs:List Int)(i:Value)(wr:World):Prop:=
 ∃k:Nat,k≤zs.length∧i=.int .i64 k∧okP (zs.take k)∧LedM wr G M (zs.take k) []∧Below w.heap.size w wr
def OfAtL2(w:World)(G M:Nat)(zs:List Int)(ls:List Ln)(i:Value)(wr:World):Prop:=
 ∃k:Nat,k≤ls.length∧i=.int .i64 k∧okL zs (ls.take k)∧LedM wr G M zs (ls.take k)∧Below w.heap.size w wr
theorem pof_any{w:World}{vp vl:Value}{zs:List Int}{ls:List Ln}(hp:aBm w vp 1 zs.length (zs.map (.int .u8)))(hl:aBm w vl 5 ls.length (aA9 ls))(h8:∀p∈zs,In8 p)(hf:∀x∈ls,x.Fits):
  Calls Tryz.prog 65 #[vp,vl] w (OfPost w zs ls):=by
 obtain⟨po,pcap,rfl,hpl,hP⟩:=hp.atP;obtain⟨lo,lcap,rfl,hll,hL⟩:=hl.atL;have HPR:=yH hP;have HLR:=yH hL;have HF:=yH hf;clear hp hl hP hL h8 hf;go_enter Tryz.func65,Tryz.ntmps65;go_wp2_with fail;refine(new_any w).mono ?_;rintro e w0 ⟨G,M,rfl,h0,hG,hM,hb0⟩;have H0:=yH h0;have B0:=yH hb0;clear h0 hb0;go_wp2_with fail
 go_loopw [14] (OfAtL1 w G M zs) (fun i _=>zs.length - (intOf i).toNat)
 case atStart=>exact⟨0,Nat.zero_le _,rfl,okP.nil,H0.o,B0.o⟩
 obtain⟨k,hk,rfl,hok,hL,hB⟩:=hrel;have HO:=yH hok;have H1:=yH hL;have B1:=yH hB;clear hok hL hB
 by_cases hkl:k<zs.length
 ·obtain⟨bp,op,rfl,hbp,hcp⟩:=HPR.o k hkl;have HC:=yH (fun j (hj:j<zs.length)=>(B1.o.cell (p:=⟨bp,op+j,none⟩) hbp).trans (hcp j hj));clear hcp;have d0:wr.cell? ⟨bp,op+k,none⟩=some (.int .u8 zs[k]):=HC.o k hkl;have C2:=yH (aCr zs[k] wr);have NX:=yH (fun hm hs=>okP.next hkl HO.o hm hs);have BD:=yH (fun h=>okP.bad hkl h)
  by_cases hm:mayP zs[k]=false
  ·have HB:=yH (BD.o (.inl hm));rw[hm]at C2;clear hm NX BD;generalize zs[k]=p at *;go_wp2_with fail;refine C2.o.mono ?_;rintro e wr ⟨rfl,rfl⟩;go_wp2_with fail;refine bodyPost_ret (v:=.tuple #[.pointer none,.int .i64 1]) zY rfl ?_;exact⟨B1.o,.inr (.inr ⟨rfl,.inl HB.o⟩)⟩
  have hm:mayP zs[k]=true:=vB
  rw[hm]at C2;have hpb:1≤zs[k]∧zs[k]≤16:=by unfold mayP at hm;simpa using hm
  by_cases hbad:∃hk0:0<k,zs[k]≤zs[k - 1]'(by omega)
  ·have HB:=yH (BD.o (.inr hbad));obtain⟨hk0,hle⟩:=hbad;obtain⟨j,rfl⟩:∃j,k=j+1:=⟨k - 1,zQ⟩;have d1:wr.cell? ⟨bp,op+j,none⟩=some (.int .u8 zs[j]):=HC.o j zQ;have hle:zs[j+1]≤zs[j]:=hle;clear hm NX BD HC hpb;generalize zs[j+1]=p at *;generalize zs[j]=q at *;go_wp2_with fail;refine C2.o.mono ?_;rintro e wr ⟨rfl,rfl⟩;go_wp2_with fail;refine bodyPost_ret (v:=.tuple #[.pointer none,.int .i64 1]) zY rfl ?_;exact⟨B1.o,.inr (.inr ⟨rfl,.inl HB.o⟩)⟩
  have hs:∀hk0:0<k,zs[k - 1]'(by omega)<zs[k]:=fun hk0=>by
   by_cases h:zs[k]≤zs[k - 1]'(by omega)
   ·exact absurd ⟨hk0,h⟩ hbad
   omega
  have HN:=yH (NX.o hm hs);have HT:=yH (List.take_succ_eq_append_getElem hkl)
  have H2:Hid (LedM (wr.setCell ⟨G,zs[k].toNat,none⟩ (.bool true)) G M (zs.take (k+1)) []∧Below w.heap.size w (wr.setCell ⟨G,zs[k].toNat,none⟩ (.bool true))):=yH (by
   have kk:=(Keep.refl (·=G) wr).setCell (p:=⟨G,zs[k].toNat,none⟩) (.inl rfl) (.bool true);refine⟨⟨?_,H1.o.map.keep kk H1.o.ne⟩,B1.o.trans (kk.below B1.o.size (fun b hb e=>zQ))⟩;have:=H1.o.blk.set zs[k].toNat (.bool true)
   rwa [ledC_set _ _ hpb (zs.take (k+1)) (fun q=>by
    rw[HT.o,List.mem_append,List.mem_singleton];exact Or.comm)]at this)
  obtain⟨p1,p2⟩:=hpb;have p3:0≤zs[k]:=zQ
  have p4:zs[k]<17:=zQ
  have d:=H1.o.blk.ledHas (p:=zs[k]) p3 p4;have f:=H1.o.blk.frozen zs[k].toNat;generalize decide (zs[k]∈zs.take k)=wasthere at *
  by_cases hk0:0<k
  ·have hlt1:=hs hk0;obtain⟨j,rfl⟩:∃j,k=j+1:=⟨k - 1,zQ⟩;have d1:wr.cell? ⟨bp,op+j,none⟩=some (.int .u8 zs[j]):=HC.o j zQ;have hlt1:zs[j]<zs[j+1]:=hlt1;have s1:decide (zs[j+1]≤zs[j])=false:=zU
   clear hm NX BD HC hs hbad HT HO H1;generalize zs[j+1]=p at *;generalize zs[j]=q at *;go_wp2_with fail;refine C2.o.mono ?_;rintro e wr ⟨rfl,rfl⟩;go_wp2_with fail;go_roundw
   case rel=>exact⟨j+1+1,zQ,by go_num,HN.o,H2.o.1,H2.o.2⟩
   case measure=>simp[intOf];omega
  clear hm NX BD HC hs hbad HT HO H1;generalize zs[k]=p at *;go_wp2_with fail;refine C2.o.mono ?_;rintro e wr ⟨rfl,rfl⟩;go_wp2_with fail;go_roundw
  case rel=>exact⟨k+1,zQ,by go_num,HN.o,H2.o.1,H2.o.2⟩
  case measure=>simp[intOf];omega
 rw[List.take_of_length_le zQ]at HO H1;clear HPR H0 B0;have HP:=HO;clear HO
 by_cases h64:64<ls.length
 ·go_wp2_with fail;refine bodyPost_ret (v:=.tuple #[.pointer none,.int .i64 9]) zY rfl ?_;exact⟨B1.o,.inr (.inl ⟨rfl,HP.o,h64⟩)⟩
 have h64:ls.length≤64:=zQ
 go_wp2_with fail
 go_loopw [46] (OfAtL2 w G M zs ls) (fun i _=>ls.length - (intOf i).toNat)
 case atStart=>exact⟨0,Nat.zero_le _,rfl,okL.nil _,H1.o,B1.o⟩
 rename_i w4;clear H1 B1;obtain⟨k,hk,rfl,hok,hL,hB⟩:=hrel;have HO:=yH hok;have H1:=yH hL;have B1:=yH hB;clear hok hL hB
 by_cases hkl:k<ls.length
 ·obtain⟨bl,ol,rfl,hbl,hcl⟩:=HLR.o k hkl;have hbl1:bl<wr.heap.size:=yM hbl B1.o.size;have HC:=yH (fun j (hj:j<ls.length) i (hi:i<5)=>(B1.o.cell (p:=⟨bl,ol+j*5+i,none⟩) hbl).trans (hcl j hj i hi));have HMw:=yH hM;clear hcl
  by_cases hm:¬aKj zs ls[k]
  ·have HB:=yH (okL.bad hkl (.inl hm));have d0:wr.cell? ⟨bl,ol+(k)*5,none⟩=some (.int .u8 ls[k].cr):=HC.o (k) zQ 0 zQ;have d1:wr.cell? ⟨bl,ol+(k)*5+1,none⟩=some (.int .u8 ls[k].de):=HC.o (k) zQ 1 zQ;have d2:wr.cell? ⟨bl,ol+(k)*5+2,none⟩=some (.int .u8 ls[k].cu):=HC.o (k) zQ 2 zQ;have d3:wr.cell? ⟨bl,ol+(k)*5+3,none⟩=some (.int .i64 ls[k].li):=HC.o (k) zQ 3 zQ;have d4:wr.cell? ⟨bl,ol+(k)*5+4,none⟩=some (.int .i64 ls[k].db):=HC.o (k) zQ 4 zQ;generalize hxe:ls[k]=x at *;clear hxe HC;have bw:=(Below.refl wr.heap.size wr).alloc yL (.cells #[.int .u8 x.cr,.int .u8 x.de,.int .u8 x.cu,.int .i64 x.li,.int .i64 x.db] 71);have B5:=yT B1 bw;have HL2:=yH (H1.o.below bw);have KX:=yH (Blk.new wr #[.int .u8 x.cr,.int .u8 x.de,.int .u8 x.cu,.int .i64 x.li,.int .i64 x.db] 71);clear bw H1 B1;go_wp2_with fail;generalize wr.alloc (.cells #[.int .u8 x.cr,.int .u8 x.de,.int .u8 x.cu,.int .i64 x.li,.int .i64 x.db] 71)=W at *
   have CL:Hid (∀w',Below W.heap.size W w'→Calls Tryz.prog 106 #[.pointer (some ⟨G,0,none⟩),.agg #[.int .u8 x.cr,.int .u8 x.de,.int .u8 x.cu,.int .i64 x.li,.int .i64 x.db]] w' fun e w''=>e=.returned (.bool false)∧Below w'.heap.size w' w''):=yH fun w' k=>by
    have:=aGo (HL2.o.below k).blk HP.o.2 x
    rwa [decide_eq_false hm]at this
   clear hm
   refine aAl zW [(.pointer (some ⟨G,0,none⟩)),(.agg #[.int .u8 x.cr,.int .u8 x.de,.int .u8 x.cu,.int .i64 x.li,.int .i64 x.db]),(.bool false),(.bool true),(.bool true),undef,undef,undef,undef,undef,undef,undef,undef,undef,undef,undef,undef,(.bool true)]
    (fun w'=>Below W.heap.size W w') zW yZ.drew ?_
   intro af haf;simp only[yG,List.append_eq,List.cons_append,List.nil_append,puts,Act.put,yA,yC,yF,yD,yE]at haf;subst haf;refine⟨?_,?_⟩
   ·simp only[yG,List.append_eq,List.cons_append,List.nil_append,aA6];refine⟨?z1,?_,?_,?z2,?z3,?z5,?z6,?z7,?z8,?z9,?z10,?z11,?z12,?z13,?z14,?z15,?z16,?z4,trivial⟩
    case z1|z2|z3|z4=>
     intro w' hS;refine yO rfl ?_;have HS:=yH hS;clear hS;go_wp2_with fail;all_goals first|exact HS|exact⟨rfl,HS⟩|rfl|exact⟨zQ,HS.o⟩
    case z5|z6|z7|z8|z9|z10|z11|z12|z13|z14|z15|z16=>
     intro w' hS;refine pAC zW rfl hS
    ·intro w' hS;refine yO rfl ?_;have d0_0:=(KX.o.below hS KX.o.lt).cell 0;have d0_1:=(KX.o.below hS KX.o.lt).cell 1;have d0_2:=(KX.o.below hS KX.o.lt).cell 2;have d0_3:=(KX.o.below hS KX.o.lt).cell 3;have d0_4:=(KX.o.below hS KX.o.lt).cell 4;simp at d0_0 d0_1 d0_2 d0_3 d0_4;have HS:=yH hS;clear hS;go_wp2_with fail;all_goals first|exact HS|exact⟨rfl,HS⟩|rfl|exact⟨zQ,HS.o⟩
    intro w' hS;refine yO rfl ?_;have HS:=yH hS;clear hS;go_wp2_with fail;refine(CL.o w' HS.o).mono ?_;rintro e w'' ⟨rfl,hb2⟩;exact⟨rfl,andB HS.o hb2⟩
   intro w6 b6;have B6:=yT B5 b6;clear b6 B5 HL2 KX CL;go_wp2_with fail;refine bodyPost_ret (v:=.tuple #[.pointer none,.int .i64 1]) zY rfl ?_;exact⟨B6.o,.inr (.inr ⟨rfl,.inr ⟨HP.o,zQ,HB.o⟩⟩)⟩
  have hm:=Decidable.not_not.1 hm
  by_cases hk0:¬0<k
  ·have hs:∀hk0:0<k,(ls[k - 1]'(by omega)).rank<ls[k].rank:=fun h=>absurd h hk0
   have HI:=yH (HP.o.linv HO.o (uT List.length_take)).inv;have HN2:=yH (okL.next hkl HO.o hm hs)
   have HN:Hid (Inv (ls.take k)∧ls[k].Fits∧ls[k].li≠0∧setL (ls.take k) ls[k]=ls.take (k+1)):=yH (by
    have hg:=hm.good;have hli:=hg.li;refine⟨HI.o,hg.fits,zQ,?_⟩;have hp:=HN2.o.1;rw[List.take_succ_eq_append_getElem hkl]at hp ⊢;rw[List.pairwise_append]at hp;exact set_last HI.o.sorted (fun y hy=>hp.2.2 y hy _ zV) zQ)
   clear hs HI;have d0:wr.cell? ⟨bl,ol+(k)*5,none⟩=some (.int .u8 ls[k].cr):=HC.o (k) zQ 0 zQ;have d1:wr.cell? ⟨bl,ol+(k)*5+1,none⟩=some (.int .u8 ls[k].de):=HC.o (k) zQ 1 zQ;have d2:wr.cell? ⟨bl,ol+(k)*5+2,none⟩=some (.int .u8 ls[k].cu):=HC.o (k) zQ 2 zQ;have d3:wr.cell? ⟨bl,ol+(k)*5+3,none⟩=some (.int .i64 ls[k].li):=HC.o (k) zQ 3 zQ;have d4:wr.cell? ⟨bl,ol+(k)*5+4,none⟩=some (.int .i64 ls[k].db):=HC.o (k) zQ 4 zQ;generalize hxe:ls[k]=x at *;clear hxe HC;have bw:=(Below.refl wr.heap.size wr).alloc yL (.cells #[.int .u8 x.cr,.int .u8 x.de,.int .u8 x.cu,.int .i64 x.li,.int .i64 x.db] 71);have B5:=yT B1 bw;have HL2:=yH (H1.o.below bw);have KX:=yH (Blk.new wr #[.int .u8 x.cr,.int .u8 x.de,.int .u8 x.cu,.int .i64 x.li,.int .i64 x.db] 71);clear bw H1 B1;go_wp2_with fail;generalize wr.alloc (.cells #[.int .u8 x.cr,.int .u8 x.de,.int .u8 x.cu,.int .i64 x.li,.int .i64 x.db] 71)=W at *
   have CL:Hid (∀w',Below W.heap.size W w'→Calls Tryz.prog 106 #[.pointer (some ⟨G,0,none⟩),.agg #[.int .u8 x.cr,.int .u8 x.de,.int .u8 x.cu,.int .i64 x.li,.int .i64 x.db]] w' fun e w''=>e=.returned (.bool true)∧Below w'.heap.size w' w''):=yH fun w' k=>by
    have:=aGo (HL2.o.below k).blk HP.o.2 x
    rwa [decide_eq_true hm]at this
   clear hm
   refine aAl zW [(.pointer (some ⟨G,0,none⟩)),(.agg #[.int .u8 x.cr,.int .u8 x.de,.int .u8 x.cu,.int .i64 x.li,.int .i64 x.db]),(.bool true),(.bool false),(.bool false),(.int .i64 k),(.bool false),(.bool false),undef,undef,undef,undef,undef,undef,undef,undef,(.bool false),(.bool false)]
    (fun w'=>Below W.heap.size W w') zW yZ.drew ?_
   intro af haf;simp only[yG,List.append_eq,List.cons_append,List.nil_append,puts,Act.put,yA,yC,yF,yD,yE]at haf;subst haf;refine⟨?_,?_⟩
   ·simp only[yG,List.append_eq,List.cons_append,List.nil_append,aA6];refine⟨?z17,?_,?_,?z18,?z19,?z21,?z22,?z23,?z25,?z26,?z27,?z28,?z29,?z30,?z31,?z32,?z24,?z20,trivial⟩
    case z17|z18|z19|z20=>
     intro w' hS;refine yO rfl ?_;have HS:=yH hS;clear hS;go_wp2_with fail;all_goals first|exact HS|exact⟨rfl,HS⟩|rfl|exact⟨zQ,HS.o⟩
    case z21|z22|z23|z24=>
     intro w' hS;refine OpTo.wanted ?_ ?_
     kernel_rfl
     have HS:=yH hS;clear hS;go_wp2_with fail;all_goals first|exact HS|exact⟨rfl,HS⟩|rfl|exact⟨zQ,HS.o⟩
    case z25|z26|z27|z28|z29|z30|z31|z32=>
     intro w' hS;refine pAC zW rfl hS
    ·intro w' hS;refine yO rfl ?_;have d0_0:=(KX.o.below hS KX.o.lt).cell 0;have d0_1:=(KX.o.below hS KX.o.lt).cell 1;have d0_2:=(KX.o.below hS KX.o.lt).cell 2;have d0_3:=(KX.o.below hS KX.o.lt).cell 3;have d0_4:=(KX.o.below hS KX.o.lt).cell 4;simp at d0_0 d0_1 d0_2 d0_3 d0_4;have HS:=yH hS;clear hS;go_wp2_with fail;all_goals first|exact HS|exact⟨rfl,HS⟩|rfl|exact⟨zQ,HS.o⟩
    intro w' hS;refine yO rfl ?_;have HS:=yH hS;clear hS;go_wp2_with fail;refine(CL.o w' HS.o).mono ?_;rintro e w'' ⟨rfl,hb2⟩;exact⟨rfl,andB HS.o hb2⟩
   intro w6 b6;have B6:=yT B5 b6;have H6:=yH (HL2.o.below b6);have KX6:=yB KX b6;clear b6 B5 HL2 KX CL;have x0:=KX6.o.cell 0;have x1:=KX6.o.cell 1;have x2:=KX6.o.cell 2;have x3:=KX6.o.cell 3;have x4:=KX6.o.cell 4;simp at x0 x1 x2 x3 x4;go_wp2_with fail
   refine aCf zW 16 12 [(.pointer (some ⟨G,0,none⟩)),(.pointer (some ⟨G,0,none⟩)),(.pointer (some ⟨G,17,none⟩)),(.map (some M)),(.pointer (some ⟨wr.heap.size,0,none⟩)),(.int .u8 x.cr),(.pointer (some ⟨wr.heap.size,1,none⟩)),(.int .u8 x.de),(.pointer (some ⟨wr.heap.size,2,none⟩)),(.int .u8 x.cu),(.agg #[.int .u8 x.cr,.int .u8 x.de,.int .u8 x.cu]),(.pointer (some ⟨wr.heap.size,3,none⟩)),(.int .i64 x.li),(.pointer (some ⟨wr.heap.size,4,none⟩)),(.int .i64 x.db),(.agg #[.int .i64 x.li,.int .i64 x.db]),undef]
    (fun w'=>Below w6.heap.size w6 w') zW rfl zW yZ.drew ?_
   intro af haf;simp only[yG,puts,Act.put,yA,yC,yF,yD,yE]at haf;subst haf;refine⟨?_,?_⟩
   ·simp only[yG,List.take_succ_cons,List.take_zero,aA6];refine⟨?z33,?z34,?z35,?_,?z38,?z39,?z40,?z41,?z42,?z43,?z36,?z44,?z45,?z46,?z47,?z37,trivial⟩
    case z33|z34|z35|z36|z37=>
     intro w' hS;refine yO rfl ?_;have HS:=yH hS;clear hS;go_wp2_with fail;all_goals first|exact HS|exact⟨rfl,HS⟩|rfl
    case z38|z39|z40|z41|z42|z43|z44|z45|z46|z47=>
     intro w' hS;refine yO rfl ?_;have d0_0:=(KX6.o.below hS KX6.o.lt).cell 0;have d0_1:=(KX6.o.below hS KX6.o.lt).cell 1;have d0_2:=(KX6.o.below hS KX6.o.lt).cell 2;have d0_3:=(KX6.o.below hS KX6.o.lt).cell 3;have d0_4:=(KX6.o.below hS KX6.o.lt).cell 4;simp at d0_0 d0_1 d0_2 d0_3 d0_4;have HS:=yH hS;clear hS;go_wp2_with fail;all_goals first|exact HS|exact⟨rfl,HS⟩|rfl
    intro w' hS;refine yO rfl ?_;have d:=(H6.o.blk.below hS H6.o.blk.lt).ledMap;have HS:=yH hS;clear hS;go_wp2_with fail;all_goals first|exact HS|exact⟨rfl,HS⟩|rfl
   simp only[yC,yA];intro w' hS;with_reducible refine yO rfl ?_
   obtain⟨w7,hr,hm7,ht7⟩:=(H6.o.map.below hS H6.o.map.lt).store HN.o.1 (x:=x) HN.o.2.1 HN.o.2.2.1;refine aCm 152 (.tmp 72) (.tmp 79) (.tmp 84) rfl rfl rfl rfl hr ⟨rfl,?_⟩
   have HE:=yH (show LedM w7 G M zs (ls.take (k+1))∧Below w.heap.size w w7 from by
    have hk7:=ht7.keep;rw[HN.o.2.2.2]at hm7;exact⟨⟨((H6.o.blk.below hS H6.o.blk.lt)).keep hk7 (fun e=>H6.o.ne e.symm),hm7⟩,(B6.o.trans (hS.mono B6.o.size)).trans (hk7.below (B6.o.trans (hS.mono B6.o.size)).size (fun q hq e=>uF HMw.o))⟩)
   clear hr hm7 ht7 hS;go_wp2_with fail;go_roundw
   case rel=>exact⟨k+1,zQ,by go_num,HN2.o,HE.o.1,HE.o.2⟩
   case measure=>simp[intOf];omega
  have hk0:=Decidable.not_not.1 hk0
  by_cases hrk:ls[k].rank≤(ls[k - 1]'(by omega)).rank
  ·skip
   obtain⟨j,rfl⟩:∃j,k=j+1:=⟨k - 1,zQ⟩;generalize hi:((j+1:Nat):Int)=i;have i0:0<i:=zQ
   have i1:i<(ls.length:Int):=zQ
   have i2:i.toNat=j+1:=zQ
   have i3:(i.toNat - 1)=j:=zQ
   clear hi;have y0:wr.cell? ⟨bl,ol+((i.toNat - 1))*5,none⟩=some (.int .u8 ls[j].cr):=vR
   have y1:wr.cell? ⟨bl,ol+((i.toNat - 1))*5+1,none⟩=some (.int .u8 ls[j].de):=vS
   have y2:wr.cell? ⟨bl,ol+((i.toNat - 1))*5+2,none⟩=some (.int .u8 ls[j].cu):=vT
   have y3:wr.cell? ⟨bl,ol+((i.toNat - 1))*5+3,none⟩=some (.int .i64 ls[j].li):=vF
   have y4:wr.cell? ⟨bl,ol+((i.toNat - 1))*5+4,none⟩=some (.int .i64 ls[j].db):=vG
   have hord:=aMz (HF.o ls[j] (List.getElem_mem _)) (HF.o ls[j+1] (List.getElem_mem _));have hrk:ls[j+1].rank≤ls[j].rank:=hrk;have HB:=yH (okL.bad (ps:=zs) hkl (.inr ⟨hk0,hrk⟩));have sv:decide (0≤ordL ls[j] ls[j+1])=true:=zU
   clear hrk hord;have d0:wr.cell? ⟨bl,ol+(i.toNat)*5,none⟩=some (.int .u8 ls[j+1].cr):=wY
   have d1:wr.cell? ⟨bl,ol+(i.toNat)*5+1,none⟩=some (.int .u8 ls[j+1].de):=vQ
   have d2:wr.cell? ⟨bl,ol+(i.toNat)*5+2,none⟩=some (.int .u8 ls[j+1].cu):=vW
   have d3:wr.cell? ⟨bl,ol+(i.toNat)*5+3,none⟩=some (.int .i64 ls[j+1].li):=vX
   have d4:wr.cell? ⟨bl,ol+(i.toNat)*5+4,none⟩=some (.int .i64 ls[j+1].db):=vV
   generalize hxe:ls[j+1]=x at *;clear hxe i2 i3;generalize hye:ls[j]=y at *;clear hye;obtain⟨v,hv⟩:∃v,ordL y x=v:=⟨_,rfl⟩;rw[hv]at sv;have bw0:=(Below.refl wr.heap.size wr).alloc yL (.cells #[.int .u8 x.cr,.int .u8 x.de,.int .u8 x.cu,.int .i64 x.li,.int .i64 x.db] 71);have HY0:=yH ((bw0.cell (p:=⟨bl,ol+(i.toNat - 1)*5,none⟩) hbl1).trans y0);have HY1:=yH ((bw0.cell (p:=⟨bl,ol+(i.toNat - 1)*5+1,none⟩) hbl1).trans y1);have HY2:=yH ((bw0.cell (p:=⟨bl,ol+(i.toNat - 1)*5+2,none⟩) hbl1).trans y2);have HY3:=yH ((bw0.cell (p:=⟨bl,ol+(i.toNat - 1)*5+3,none⟩) hbl1).trans y3);have HY4:=yH ((bw0.cell (p:=⟨bl,ol+(i.toNat - 1)*5+4,none⟩) hbl1).trans y4);have HBl:=yH (yM hbl1 bw0.size);clear bw0 HC;have bw:=(Below.refl wr.heap.size wr).alloc yL (.cells #[.int .u8 x.cr,.int .u8 x.de,.int .u8 x.cu,.int .i64 x.li,.int .i64 x.db] 71);have B5:=yT B1 bw;have HL2:=yH (H1.o.below bw);have KX:=yH (Blk.new wr #[.int .u8 x.cr,.int .u8 x.de,.int .u8 x.cu,.int .i64 x.li,.int .i64 x.db] 71);clear bw H1 B1;go_wp2_with fail;generalize wr.alloc (.cells #[.int .u8 x.cr,.int .u8 x.de,.int .u8 x.cu,.int .i64 x.li,.int .i64 x.db] 71)=W at *
   have CL:Hid (∀w',Below W.heap.size W w'→Calls Tryz.prog 106 #[.pointer (some ⟨G,0,none⟩),.agg #[.int .u8 x.cr,.int .u8 x.de,.int .u8 x.cu,.int .i64 x.li,.int .i64 x.db]] w' fun e w''=>e=.returned (.bool true)∧Below w'.heap.size w' w''):=yH fun w' k=>by
    have:=aGo (HL2.o.below k).blk HP.o.2 x
    rwa [decide_eq_true hm]at this
   clear hm
   have CO:Hid (∀w',Calls Tryz.prog 101 #[.agg #[.int .u8 y.cr,.int .u8 y.de,.int .u8 y.cu,.int .i64 y.li,.int .i64 y.db],.agg #[.int .u8 x.cr,.int .u8 x.de,.int .u8 x.cu,.int .i64 x.li,.int .i64 x.db]] w' fun e w''=>e=.returned (.int .i64 v)∧Below w'.heap.size w' w''):=yH fun w'=>by
    refine(aM0 y x w').mono ?_;rintro e w'' ⟨h1,q,os,h2⟩;rw[hv]at h1;subst h2;exact⟨h1,aOu _ _ _⟩
   clear hv y0 y1 y2 y3 y4
   refine aAl zW [(.pointer (some ⟨G,0,none⟩)),(.agg #[.int .u8 x.cr,.int .u8 x.de,.int .u8 x.cu,.int .i64 x.li,.int .i64 x.db]),(.bool true),(.bool false),(.bool false),(.int .i64 i),(.bool true),(.bool true),(.slice (some ⟨bl,ol,none⟩) ls.length lcap),(.int .i64 i),(.int .i64 (i - 1)),(.pointer (some ⟨bl,ol+(i.toNat - 1)*5,none⟩)),(.agg #[.int .u8 y.cr,.int .u8 y.de,.int .u8 y.cu,.int .i64 y.li,.int .i64 y.db]),(.agg #[.int .u8 x.cr,.int .u8 x.de,.int .u8 x.cu,.int .i64 x.li,.int .i64 x.db]),(.int .i64 v),(.bool true),(.bool true),(.bool true)]
    (fun w'=>Below W.heap.size W w') zW yZ.drew ?_
   intro af haf;simp only[yG,List.append_eq,List.cons_append,List.nil_append,puts,Act.put,yA,yC,yF,yD,yE]at haf;subst haf;refine⟨?_,?_⟩
   ·simp only[yG,List.append_eq,List.cons_append,List.nil_append,aA6];refine⟨?z48,?_,?_,?z49,?z50,?z52,?z53,?z54,?z55,?z56,?z57,?z58,?_,?_,?_,?z59,?z60,?z51,trivial⟩
    case z48|z49|z50|z51=>
     intro w' hS;refine yO rfl ?_;have HS:=yH hS;clear hS;go_wp2_with fail;all_goals first|exact HS|exact⟨rfl,HS⟩|rfl|exact⟨zQ,HS.o⟩
    case z52|z53|z54|z55|z56|z57|z58|z59|z60=>
     intro w' hS;refine OpTo.wanted ?_ ?_
     kernel_rfl
     have HS:=yH hS;clear hS;go_wp2_with fail;all_goals first|exact HS|exact⟨rfl,HS⟩|rfl|exact⟨zQ,HS.o⟩
    ·intro w' hS;refine yO rfl ?_;have d0_0:=(KX.o.below hS KX.o.lt).cell 0;have d0_1:=(KX.o.below hS KX.o.lt).cell 1;have d0_2:=(KX.o.below hS KX.o.lt).cell 2;have d0_3:=(KX.o.below hS KX.o.lt).cell 3;have d0_4:=(KX.o.below hS KX.o.lt).cell 4;simp at d0_0 d0_1 d0_2 d0_3 d0_4;have HS:=yH hS;clear hS;go_wp2_with fail;all_goals first|exact HS|exact⟨rfl,HS⟩|rfl|exact⟨zQ,HS.o⟩
    ·intro w' hS;refine yO rfl ?_;have HS:=yH hS;clear hS;go_wp2_with fail;refine(CL.o w' HS.o).mono ?_;rintro e w'' ⟨rfl,hb2⟩;exact⟨rfl,andB HS.o hb2⟩
    ·intro w' hS;refine OpTo.wanted ?_ ?_
     kernel_rfl
     have e0:=(hS.cell (p:=⟨bl,ol+(i.toNat - 1)*5,none⟩) HBl.o).trans HY0.o;have e1:=(hS.cell (p:=⟨bl,ol+(i.toNat - 1)*5+1,none⟩) HBl.o).trans HY1.o;have e2:=(hS.cell (p:=⟨bl,ol+(i.toNat - 1)*5+2,none⟩) HBl.o).trans HY2.o;have e3:=(hS.cell (p:=⟨bl,ol+(i.toNat - 1)*5+3,none⟩) HBl.o).trans HY3.o;have e4:=(hS.cell (p:=⟨bl,ol+(i.toNat - 1)*5+4,none⟩) HBl.o).trans HY4.o;have HS:=yH hS;clear hS;go_wp2_with fail;all_goals first|exact HS|exact⟨rfl,HS⟩|rfl|exact⟨zQ,HS.o⟩
    ·intro w' hS;refine OpTo.wanted ?_ ?_
     kernel_rfl
     have d0_0:=(KX.o.below hS KX.o.lt).cell 0;have d0_1:=(KX.o.below hS KX.o.lt).cell 1;have d0_2:=(KX.o.below hS KX.o.lt).cell 2;have d0_3:=(KX.o.below hS KX.o.lt).cell 3;have d0_4:=(KX.o.below hS KX.o.lt).cell 4;simp at d0_0 d0_1 d0_2 d0_3 d0_4;have HS:=yH hS;clear hS;go_wp2_with fail;all_goals first|exact HS|exact⟨rfl,HS⟩|rfl|exact⟨zQ,HS.o⟩
    intro w' hS;refine OpTo.wanted ?_ ?_
    kernel_rfl
    have HS:=yH hS;clear hS;go_wp2_with fail;refine(CO.o w').mono ?_;rintro e w'' ⟨rfl,hb2⟩;exact⟨rfl,andB HS.o hb2⟩
   intro w6 b6;have B6:=yT B5 b6;clear b6 B5 HL2 KX CL;go_wp2_with fail;refine bodyPost_ret (v:=.tuple #[.pointer none,.int .i64 1]) zY rfl ?_;exact⟨B6.o,.inr (.inr ⟨rfl,.inr ⟨HP.o,zQ,HB.o⟩⟩)⟩
  have hs:∀hk0:0<k,(ls[k - 1]'(by omega)).rank<ls[k].rank:=fun _=>zQ
  clear hrk;obtain⟨j,rfl⟩:∃j,k=j+1:=⟨k - 1,zQ⟩;generalize hi:((j+1:Nat):Int)=i;have i0:0<i:=zQ
  have i1:i<(ls.length:Int):=zQ
  have i2:i.toNat=j+1:=zQ
  have i3:(i.toNat - 1)=j:=zQ
  have HIi:=yH hi;clear hi;have y0:wr.cell? ⟨bl,ol+((i.toNat - 1))*5,none⟩=some (.int .u8 ls[j].cr):=vR
  have y1:wr.cell? ⟨bl,ol+((i.toNat - 1))*5+1,none⟩=some (.int .u8 ls[j].de):=vS
  have y2:wr.cell? ⟨bl,ol+((i.toNat - 1))*5+2,none⟩=some (.int .u8 ls[j].cu):=vT
  have y3:wr.cell? ⟨bl,ol+((i.toNat - 1))*5+3,none⟩=some (.int .i64 ls[j].li):=vF
  have y4:wr.cell? ⟨bl,ol+((i.toNat - 1))*5+4,none⟩=some (.int .i64 ls[j].db):=vG
  have hord:=aMz (HF.o ls[j] (List.getElem_mem _)) (HF.o ls[j+1] (List.getElem_mem _));have hrk:ls[j].rank<ls[j+1].rank:=by have:=hs hk0;exact this
  have HI:=yH (HP.o.linv HO.o (uT List.length_take)).inv;have HN2:=yH (okL.next hkl HO.o hm hs)
  have HN:Hid (Inv (ls.take (j+1))∧ls[j+1].Fits∧ls[j+1].li≠0∧setL (ls.take (j+1)) ls[j+1]=ls.take (j+1+1)):=yH (by
   have hg:=hm.good;have hli:=hg.li;refine⟨HI.o,hg.fits,zQ,?_⟩;have hp:=HN2.o.1;rw[List.take_succ_eq_append_getElem hkl]at hp ⊢;rw[List.pairwise_append]at hp;exact set_last HI.o.sorted (fun y hy=>hp.2.2 y hy _ zV) zQ)
  have sv:decide (0≤ordL ls[j] ls[j+1])=false:=zU
  clear hrk hord hs HI;have d0:wr.cell? ⟨bl,ol+(i.toNat)*5,none⟩=some (.int .u8 ls[j+1].cr):=wY
  have d1:wr.cell? ⟨bl,ol+(i.toNat)*5+1,none⟩=some (.int .u8 ls[j+1].de):=vQ
  have d2:wr.cell? ⟨bl,ol+(i.toNat)*5+2,none⟩=some (.int .u8 ls[j+1].cu):=vW
  have d3:wr.cell? ⟨bl,ol+(i.toNat)*5+3,none⟩=some (.int .i64 ls[j+1].li):=vX
  have d4:wr.cell? ⟨bl,ol+(i.toNat)*5+4,none⟩=some (.int .i64 ls[j+1].db):=vV
  generalize hxe:ls[j+1]=x at *;clear hxe i2 i3;generalize hye:ls[j]=y at *;clear hye;obtain⟨v,hv⟩:∃v,ordL y x=v:=⟨_,rfl⟩;rw[hv]at sv;have bw0:=(Below.refl wr.heap.size wr).alloc yL (.cells #[.int .u8 x.cr,.int .u8 x.de,.int .u8 x.cu,.int .i64 x.li,.int .i64 x.db] 71);have HY0:=yH ((bw0.cell (p:=⟨bl,ol+(i.toNat - 1)*5,none⟩) hbl1).trans y0);have HY1:=yH ((bw0.cell (p:=⟨bl,ol+(i.toNat - 1)*5+1,none⟩) hbl1).trans y1);have HY2:=yH ((bw0.cell (p:=⟨bl,ol+(i.toNat - 1)*5+2,none⟩) hbl1).trans y2);have HY3:=yH ((bw0.cell (p:=⟨bl,ol+(i.toNat - 1)*5+3,none⟩) hbl1).trans y3);have HY4:=yH ((bw0.cell (p:=⟨bl,ol+(i.toNat - 1)*5+4,none⟩) hbl1).trans y4);have HBl:=yH (yM hbl1 bw0.size);clear bw0 HC;have bw:=(Below.refl wr.heap.size wr).alloc yL (.cells #[.int .u8 x.cr,.int .u8 x.de,.int .u8 x.cu,.int .i64 x.li,.int .i64 x.db] 71);have B5:=yT B1 bw;have HL2:=yH (H1.o.below bw);have KX:=yH (Blk.new wr #[.int .u8 x.cr,.int .u8 x.de,.int .u8 x.cu,.int .i64 x.li,.int .i64 x.db] 71);clear bw H1 B1;go_wp2_with fail;generalize wr.alloc (.cells #[.int .u8 x.cr,.int .u8 x.de,.int .u8 x.cu,.int .i64 x.li,.int .i64 x.db] 71)=W at *
  have CL:Hid (∀w',Below W.heap.size W w'→Calls Tryz.prog 106 #[.pointer (some ⟨G,0,none⟩),.agg #[.int .u8 x.cr,.int .u8 x.de,.int .u8 x.cu,.int .i64 x.li,.int .i64 x.db]] w' fun e w''=>e=.returned (.bool true)∧Below w'.heap.size w' w''):=yH fun w' k=>by
   have:=aGo (HL2.o.below k).blk HP.o.2 x
   rwa [decide_eq_true hm]at this
  clear hm
  have CO:Hid (∀w',Calls Tryz.prog 101 #[.agg #[.int .u8 y.cr,.int .u8 y.de,.int .u8 y.cu,.int .i64 y.li,.int .i64 y.db],.agg #[.int .u8 x.cr,.int .u8 x.de,.int .u8 x.cu,.int .i64 x.li,.int .i64 x.db]] w' fun e w''=>e=.returned (.int .i64 v)∧Below w'.heap.size w' w''):=yH fun w'=>by
   refine(aM0 y x w').mono ?_;rintro e w'' ⟨h1,q,os,h2⟩;rw[hv]at h1;subst h2;exact⟨h1,aOu _ _ _⟩
  clear hv y0 y1 y2 y3 y4
  refine aAl zW [(.pointer (some ⟨G,0,none⟩)),(.agg #[.int .u8 x.cr,.int .u8 x.de,.int .u8 x.cu,.int .i64 x.li,.int .i64 x.db]),(.bool true),(.bool false),(.bool false),(.int .i64 i),(.bool true),(.bool true),(.slice (some ⟨bl,ol,none⟩) ls.length lcap),(.int .i64 i),(.int .i64 (i - 1)),(.pointer (some ⟨bl,ol+(i.toNat - 1)*5,none⟩)),(.agg #[.int .u8 y.cr,.int .u8 y.de,.int .u8 y.cu,.int .i64 y.li,.int .i64 y.db]),(.agg #[.int .u8 x.cr,.int .u8 x.de,.int .u8 x.cu,.int .i64 x.li,.int .i64 x.db]),(.int .i64 v),(.bool false),(.bool false),(.bool false)]
   (fun w'=>Below W.heap.size W w') zW yZ.drew ?_
  intro af haf;simp only[yG,List.append_eq,List.cons_append,List.nil_append,puts,Act.put,yA,yC,yF,yD,yE]at haf;subst haf;refine⟨?_,?_⟩
  ·simp only[yG,List.append_eq,List.cons_append,List.nil_append,aA6];refine⟨?z61,?_,?_,?z62,?z63,?z65,?z66,?z67,?z68,?z69,?z70,?z71,?_,?_,?_,?z72,?z73,?z64,trivial⟩
   case z61|z62|z63|z64=>
    intro w' hS;refine yO rfl ?_;have HS:=yH hS;clear hS;go_wp2_with fail;all_goals first|exact HS|exact⟨rfl,HS⟩|rfl|exact⟨zQ,HS.o⟩
   case z65|z66|z67|z68|z69|z70|z71|z72|z73=>
    intro w' hS;refine OpTo.wanted ?_ ?_
    kernel_rfl
    have HS:=yH hS;clear hS;go_wp2_with fail;all_goals first|exact HS|exact⟨rfl,HS⟩|rfl|exact⟨zQ,HS.o⟩
   ·intro w' hS;refine yO rfl ?_;have d0_0:=(KX.o.below hS KX.o.lt).cell 0;have d0_1:=(KX.o.below hS KX.o.lt).cell 1;have d0_2:=(KX.o.below hS KX.o.lt).cell 2;have d0_3:=(KX.o.below hS KX.o.lt).cell 3;have d0_4:=(KX.o.below hS KX.o.lt).cell 4;simp at d0_0 d0_1 d0_2 d0_3 d0_4;have HS:=yH hS;clear hS;go_wp2_with fail;all_goals first|exact HS|exact⟨rfl,HS⟩|rfl|exact⟨zQ,HS.o⟩
   ·intro w' hS;refine yO rfl ?_;have HS:=yH hS;clear hS;go_wp2_with fail;refine(CL.o w' HS.o).mono ?_;rintro e w'' ⟨rfl,hb2⟩;exact⟨rfl,andB HS.o hb2⟩
   ·intro w' hS;refine OpTo.wanted ?_ ?_
    kernel_rfl
    have e0:=(hS.cell (p:=⟨bl,ol+(i.toNat - 1)*5,none⟩) HBl.o).trans HY0.o;have e1:=(hS.cell (p:=⟨bl,ol+(i.toNat - 1)*5+1,none⟩) HBl.o).trans HY1.o;have e2:=(hS.cell (p:=⟨bl,ol+(i.toNat - 1)*5+2,none⟩) HBl.o).trans HY2.o;have e3:=(hS.cell (p:=⟨bl,ol+(i.toNat - 1)*5+3,none⟩) HBl.o).trans HY3.o;have e4:=(hS.cell (p:=⟨bl,ol+(i.toNat - 1)*5+4,none⟩) HBl.o).trans HY4.o;have HS:=yH hS;clear hS;go_wp2_with fail;all_goals first|exact HS|exact⟨rfl,HS⟩|rfl|exact⟨zQ,HS.o⟩
   ·intro w' hS;refine OpTo.wanted ?_ ?_
    kernel_rfl
    have d0_0:=(KX.o.below hS KX.o.lt).cell 0;have d0_1:=(KX.o.below hS KX.o.lt).cell 1;have d0_2:=(KX.o.below hS KX.o.lt).cell 2;have d0_3:=(KX.o.below hS KX.o.lt).cell 3;have d0_4:=(KX.o.below hS KX.o.lt).cell 4;simp at d0_0 d0_1 d0_2 d0_3 d0_4;have HS:=yH hS;clear hS;go_wp2_with fail;all_goals first|exact HS|exact⟨rfl,HS⟩|rfl|exact⟨zQ,HS.o⟩
   intro w' hS;refine OpTo.wanted ?_ ?_
   kernel_rfl
   have HS:=yH hS;clear hS;go_wp2_with fail;refine(CO.o w').mono ?_;rintro e w'' ⟨rfl,hb2⟩;exact⟨rfl,andB HS.o hb2⟩
  intro w6 b6;have B6:=yT B5 b6;have H6:=yH (HL2.o.below b6);have KX6:=yB KX b6;clear b6 B5 HL2 KX CL;have x0:=KX6.o.cell 0;have x1:=KX6.o.cell 1;have x2:=KX6.o.cell 2;have x3:=KX6.o.cell 3;have x4:=KX6.o.cell 4;simp at x0 x1 x2 x3 x4;go_wp2_with fail
  refine aCf zW 16 12 [(.pointer (some ⟨G,0,none⟩)),(.pointer (some ⟨G,0,none⟩)),(.pointer (some ⟨G,17,none⟩)),(.map (some M)),(.pointer (some ⟨wr.heap.size,0,none⟩)),(.int .u8 x.cr),(.pointer (some ⟨wr.heap.size,1,none⟩)),(.int .u8 x.de),(.pointer (some ⟨wr.heap.size,2,none⟩)),(.int .u8 x.cu),(.agg #[.int .u8 x.cr,.int .u8 x.de,.int .u8 x.cu]),(.pointer (some ⟨wr.heap.size,3,none⟩)),(.int .i64 x.li),(.pointer (some ⟨wr.heap.size,4,none⟩)),(.int .i64 x.db),(.agg #[.int .i64 x.li,.int .i64 x.db]),undef]
   (fun w'=>Below w6.heap.size w6 w') zW rfl zW yZ.drew ?_
  intro af haf;simp only[yG,puts,Act.put,yA,yC,yF,yD,yE]at haf;subst haf;refine⟨?_,?_⟩
  ·simp only[yG,List.take_succ_cons,List.take_zero,aA6];refine⟨?z74,?z75,?z76,?_,?z79,?z80,?z81,?z82,?z83,?z84,?z77,?z85,?z86,?z87,?z88,?z78,trivial⟩
   case z74|z75|z76|z77|z78=>
    intro w' hS;refine yO rfl ?_;have HS:=yH hS;clear hS;go_wp2_with fail;all_goals first|exact HS|exact⟨rfl,HS⟩|rfl
   case z79|z80|z81|z82|z83|z84|z85|z86|z87|z88=>
    intro w' hS;refine yO rfl ?_;have d0_0:=(KX6.o.below hS KX6.o.lt).cell 0;have d0_1:=(KX6.o.below hS KX6.o.lt).cell 1;have d0_2:=(KX6.o.below hS KX6.o.lt).cell 2;have d0_3:=(KX6.o.below hS KX6.o.lt).cell 3;have d0_4:=(KX6.o.below hS KX6.o.lt).cell 4;simp at d0_0 d0_1 d0_2 d0_3 d0_4;have HS:=yH hS;clear hS;go_wp2_with fail;all_goals first|exact HS|exact⟨rfl,HS⟩|rfl
   intro w' hS;refine yO rfl ?_;have d:=(H6.o.blk.below hS H6.o.blk.lt).ledMap;have HS:=yH hS;clear hS;go_wp2_with fail;all_goals first|exact HS|exact⟨rfl,HS⟩|rfl
  simp only[yC,yA];intro w' hS;with_reducible refine yO rfl ?_
  obtain⟨w7,hr,hm7,ht7⟩:=(H6.o.map.below hS H6.o.map.lt).store HN.o.1 (x:=x) HN.o.2.1 HN.o.2.2.1;refine aCm 152 (.tmp 72) (.tmp 79) (.tmp 84) rfl rfl rfl rfl hr ⟨rfl,?_⟩
  have HE:=yH (show LedM w7 G M zs (ls.take (j+1+1))∧Below w.heap.size w w7 from by
   have hk7:=ht7.keep;rw[HN.o.2.2.2]at hm7;exact⟨⟨((H6.o.blk.below hS H6.o.blk.lt)).keep hk7 (fun e=>H6.o.ne e.symm),hm7⟩,(B6.o.trans (hS.mono B6.o.size)).trans (hk7.below (B6.o.trans (hS.mono B6.o.size)).size (fun q hq e=>uF HMw.o))⟩)
  clear hr hm7 ht7 hS;go_wp2_with fail;go_roundw
  case rel=>exact⟨j+1+1,zQ,by have:=HIi.o;first|go_num|(congr 1;omega),HN2.o,HE.o.1,HE.o.2⟩
  case measure=>have:=HIi.o;simp[intOf];omega
 rw[List.take_of_length_le zQ]at HO H1;go_wp2_with fail;refine bodyPost_ret (v:=.tuple #[.pointer (some ⟨G,0,none⟩),.int .i64 0]) zY rfl ?_;exact⟨B1.o,.inl ⟨HP.o,h64,HO.o,G,M,zQ,zQ,rfl,H1.o⟩⟩
end Go.Proofs.YtngnfdnfpiiclaaGreat
namespace Go.Proofs.YtngnfdnfpiiclaaGreat
open Go.RowKit
open Classical in
noncomputable def mofE(σ:Hs):Int:=if ¬okP σ.ps then 1 else if 64<σ.ls.length then 9 else if ¬okL σ.ps σ.ls then 1 else if 32<σ.l.length then 9 else if ¬(okO σ.N σ.l∧σ.N≠0)then 1 else if ∃o∈σ.l,o.ow∉σ.ps then 1 else 0
def MOfPost(w:World)(σ:Hs)(e:Ending)(w':World):Prop:=
 Below w.heap.size w w'∧((mofE σ=0∧∃k,e=.returned (.tuple #[.pointer (some ⟨k,0,none⟩),.int .i64 0])∧w.heap.size≤k∧MIs (fun _=>True) w' k σ)∨(mofE σ≠0∧e=.returned (.tuple #[.pointer none,.int .i64 (mofE σ)])))
def OhAt(W:World)(l:List Of)(ps:List Int)(i:Value)(wr:World):Prop:=∃k:Nat,k≤l.length∧i=.int .i64 k∧(∀o∈l.take k,o.ow∈ps)∧Below W.heap.size W wr
open Classical in
theorem mof_any{w:World}{σ:Hs}{vp vl vo:Value}(h:aFn w σ vp vl vo)(h8:∀p∈σ.ps,In8 p)(hf:∀x∈σ.ls,x.Fits)(hfo:∀x∈σ.l,x.Fits)(h0:0≤σ.N)(h1:σ.N≤18446744073709551615)(hll:σ.l.length≤100000000):
  Calls Tryz.prog 32 #[.agg #[vp,vl,vo,.int .u64 σ.N]] w (MOfPost w σ):=by
 obtain⟨ps,ls,l,N⟩:=σ;dsimp only at *;have b1:=(Below.refl w.heap.size w).alloc yL (.cells #[vp,vl,vo,.int .u64 N] 46);have KX:=yH (Blk.new w #[vp,vl,vo,.int .u64 N] 46);have B1:=yH b1;have HO:=yH (h.o.below b1);have CL:=yH (pof_any (h.p.below b1) (h.l.below b1) h8 hf);have CB:=yH (fun w' (k:Below w.heap.size w w')=>pofB_any (nx:=N) (h.o.below k) hfo h0 h1);have HN:=yH hll;clear h h8 hf hfo h0 h1 hll b1;obtain⟨oo,oc,rfl⟩:=HO.o.shape;go_enter Tryz.func32,Tryz.ntmps32
 go_upto_region 1 with fail
 generalize w.alloc (.cells #[vp,vl,.slice oo l.length oc,.int .u64 N] 46)=W at *;have x0:=KX.o.cell 0;have x1:=KX.o.cell 1;simp at x0 x1;go_wp2_with fail;refine CL.o.mono ?_;rintro e w1 ⟨b2,h⟩;clear CL x0 x1;have B2:=yT B1 b2;have KX2:=yB KX b2;have HO2:=yH (HO.o.below b2);clear b2;rcases h with⟨hp,h64,hL,G,M,hG,hM,rfl,led⟩|⟨rfl,hp,h64⟩|⟨rfl,hb⟩
 ·have LD:=yH led;have OKP:=yH hp
  have EE:Hid (mofE ⟨ps,ls,l,N⟩=if 32<l.length then 9 else if ¬(okO N l∧N≠0)then 1 else if ∃o∈l,o.ow∉ps then 1 else 0):=yH (by
   unfold mofE;rw[if_neg y8,if_neg (uN h64),if_neg (uN hL)])
  clear hp h64 hL hG hM led;have x2:=KX2.o.cell 2;have x3:=KX2.o.cell 3;simp at x2 x3;go_wp2_with fail;refine(CB.o w1 B2.o).mono ?_;rintro e w2 ⟨b3,h⟩;clear CB x2 x3;have B3:=yT B2 b3;have KX3:=yB KX2 b3;have HO3:=yH (HO2.o.below b3);have LD3:=yH (LD.o.below b3);clear b3;rcases h with⟨h32,hO,hN,gb,vb,rfl,pb⟩|⟨rfl,h32⟩|⟨rfl,h32,hb⟩
  ·have PB3:=yH pb
   have EF:Hid (mofE ⟨ps,ls,l,N⟩=if ∃o∈l,o.ow∉ps then 1 else 0):=yH (by
    rw[EE.o,if_neg zQ,if_neg (fun q=>q ⟨hO,hN⟩)])
   clear h32 hO hN pb EE;have x2:=KX3.o.cell 2;simp at x2;go_wp2_with fail;clear x2
   go_loopw [34] (OhAt w2 l ps) (fun i _=>l.length - (intOf i).toNat)
   case atStart=>exact⟨0,Nat.zero_le _,rfl,(fun o ho=>by cases ho),yZ⟩
   obtain⟨k,hk,rfl,hal,hb⟩:=hrel;have BW:=yH hb;have hl100:=HN.o
   by_cases hkl:k<l.length
   ·have hki:(k:Int)<(l.length:Int):=zQ
    have hk0:(0:Int)≤(k:Int):=zQ
    obtain⟨b,off,rfl,hbl,hc⟩:=HO3.o.row hb hkl zX;have e0:=(hc 0 zX).trans (aAh l k 0 zX hkl);have e1:=(hc 1 zX).trans (aAh l k 1 zX hkl);have e2:=(hc 2 zX).trans (aAh l k 2 zX hkl);have e3:=(hc 3 zX).trans (aAh l k 3 zX hkl);have e4:=(hc 4 zX).trans (aAh l k 4 zX hkl);have e5:=(hc 5 zX).trans (aAh l k 5 zX hkl);have e6:=(hc 6 zX).trans (aAh l k 6 zX hkl);have HK:=yH hkl;have MM1:=yH (List.getElem_mem hkl)
    have AL:Hid (l[k].ow∈ps→∀o∈l.take (k+1),o.ow∈ps):=yH (fun h o ho=>by
     rw[List.take_succ_eq_append_getElem hkl]at ho;rcases List.mem_append.1 ho with ho|ho
     ·exact hal o ho
     rw[List.mem_singleton]at ho;rw[ho];exact h)
    clear hc hb hk hal;generalize l[k]=y at *;simp[Of.vals]at e0 e1 e2 e3 e4 e5 e6;clear hkl;have KY:=yH (show Blk ((wr.alloc (.cells #[.int .u64 0,.int .u8 0,.int .u8 0,.int .u8 0,.int .i64 0,.int .i64 0,.int .i64 0] 75)).setRow wr.heap.size #[.int .u64 y.se,.int .u8 y.ow,.int .u8 y.sl,.int .u8 y.bu,.int .i64 y.lf,.int .i64 y.nu,.int .i64 y.de]) wr.heap.size #[.int .u64 y.se,.int .u8 y.ow,.int .u8 y.sl,.int .u8 y.bu,.int .i64 y.lf,.int .i64 y.nu,.int .i64 y.de] 75 from(Blk.new wr #[.int .u64 0,.int .u8 0,.int .u8 0,.int .u8 0,.int .i64 0,.int .i64 0,.int .i64 0] 75).row);have BY:=yH (below_setRow ((Below.refl wr.heap.size wr).alloc yL (.cells #[.int .u64 0,.int .u8 0,.int .u8 0,.int .u8 0,.int .i64 0,.int .i64 0,.int .i64 0] 75)) (Nat.le_refl wr.heap.size) #[.int .u64 y.se,.int .u8 y.ow,.int .u8 y.sl,.int .u8 y.bu,.int .i64 y.lf,.int .i64 y.nu,.int .i64 y.de])
    go_upto_region 10 with(refine aAa rfl 75 (.tmp 8) (.tmp 37) rfl wr.heap.size #[.int .u64 y.se,.int .u8 y.ow,.int .u8 y.sl,.int .u8 y.bu,.int .i64 y.lf,.int .i64 y.nu,.int .i64 y.de] rfl rfl 75 _ (Blk.new wr #[.int .u64 0,.int .u8 0,.int .u8 0,.int .u8 0,.int .i64 0,.int .i64 0,.int .i64 0] 75).out zW rfl zK ?_)
    generalize (wr.alloc (.cells #[.int .u64 0,.int .u8 0,.int .u8 0,.int .u8 0,.int .i64 0,.int .i64 0,.int .i64 0] 75)).setRow wr.heap.size #[.int .u64 y.se,.int .u8 y.ow,.int .u8 y.sl,.int .u8 y.bu,.int .i64 y.lf,.int .i64 y.nu,.int .i64 y.de]=w4 at *;have y1:=KY.o.cell 1;simp at y1;have B4:=yH (andB BW.o BY.o);have LD4:=yH (LD3.o.below B4.o);clear e0 e1 e2 e3 e4 e5 e6 BY;go_wp2_with fail;clear y1;refine(aEi LD4.o.blk OKP.o.2 y.ow).mono ?_;rintro e w5 ⟨rfl,rfl⟩
    by_cases hy:y.ow∈ps
    ·have r1:decide (y.ow∈ps)=true:=uN hy
     have AA:=yH (AL.o hy);clear hy;go_wp2_with fail;exact⟨⟨k+1,zQ,by go_num,AA.o,B4.o⟩,zS⟩
    have r1:decide (y.ow∈ps)=false:=uN hy
    have EZ:Hid (mofE ⟨ps,ls,l,N⟩=1):=yH (by rw[EF.o,if_pos ⟨y,MM1.o,hy⟩]);clear hy;go_wp2_with fail;refine bodyPost_ret (v:=.tuple #[.pointer none,.int .i64 1]) yQ rfl ?_;exact⟨andB B3.o B4.o,.inr ⟨by rw[EZ.o];decide,by rw[EZ.o]⟩⟩
   have hkn:k=l.length:=zQ
   subst hkn;rw[List.take_length]at hal;have EZ:Hid (mofE ⟨ps,ls,l,N⟩=0):=yH (by rw[EF.o,if_neg (by rintro⟨o,ho,hn⟩;exact hn (hal o ho))]);have LD4:=yH (LD3.o.below hb);have PB4:=yH (PB3.o.below hb);clear hkl hk hb hal;go_wp2_with fail;have bz:=(Below.refl wr.heap.size wr).alloc yL (.cells #[.pointer (some ⟨G,0,none⟩),.pointer (some ⟨gb,0,none⟩)] 82);have KM:=yH (Blk.new wr #[.pointer (some ⟨G,0,none⟩),.pointer (some ⟨gb,0,none⟩)] 82);refine bodyPost_ret (v:=.tuple #[.pointer (some ⟨wr.heap.size,0,none⟩),.int .i64 0]) yQ rfl ?_;refine⟨andB (andB B3.o BW.o) bz,.inl ⟨EZ.o,_,rfl,?_,G,M,gb,vb,KM.o,LD4.o.below bz,(PB4.o.below bz).down12 (Nat.zero_le _),trivial,trivial,trivial,fun _ _=>trivial⟩⟩;exact Nat.le_trans B3.o.size BW.o.size
  ·have EF:Hid (mofE ⟨ps,ls,l,N⟩=9):=yH (by rw[EE.o,if_pos h32]);clear h32 EE;go_wp2_with fail;refine bodyPost_ret (v:=.tuple #[.pointer none,.int .i64 9]) yQ rfl ?_;exact⟨B3.o,.inr ⟨uP,by rw[EF.o]⟩⟩
  have EF:Hid (mofE ⟨ps,ls,l,N⟩=1):=yH (by rw[EE.o,if_neg zQ,if_pos hb]);clear h32 hb EE;go_wp2_with fail;refine bodyPost_ret (v:=.tuple #[.pointer none,.int .i64 1]) yQ rfl ?_;exact⟨B3.o,.inr ⟨uP,by rw[EF.o]⟩⟩
 ·have EF:Hid (mofE ⟨ps,ls,l,N⟩=9):=yH (by unfold mofE;rw[if_neg y8,if_pos h64]);clear hp h64;go_wp2_with fail;refine bodyPost_ret (v:=.tuple #[.pointer none,.int .i64 9]) yQ rfl ?_;exact⟨B2.o,.inr ⟨uP,by rw[EF.o]⟩⟩
 have EF:Hid (mofE ⟨ps,ls,l,N⟩=1):=yH (by
  unfold mofE;rcases hb with hb|⟨hp,h64,hL⟩
  ·rw[if_pos hb]
  rw[if_neg y8,if_neg (uN h64),if_pos hL])
 clear hb;go_wp2_with fail;refine bodyPost_ret (v:=.tuple #[.pointer none,.int .i64 1]) yQ rfl ?_;exact⟨B2.o,.inr ⟨uP,by rw[EF.o]⟩⟩
end Go.Proofs.YtngnfdnfpiiclaaGreat
namespace Go.Proofs.YtngnfdnfpiiclaaGreat
open Go.RowKit
theorem LInv.okP{ps:List Int}{ls:List Ln}(h:LInv ps ls):okP ps:=⟨h.rise,h.bd⟩
theorem Ln.Good.mayE{x:Ln}(h:x.Good):mayE x.cr x.de x.cu=true:=by
 have h1:=h.cr;have h2:=h.de;have h3:=h.cu;have h4:=h.ne;unfold Go.Proofs.YtngnfdnfpiiclaaGreat.mayE;rw[decide_eq_true_eq];exact⟨h1,h2,h4,h3⟩
theorem LInv.okL{ps:List Int}{ls:List Ln}(h:LInv ps ls):okL ps ls:=by
 refine⟨h.inv.sorted,fun x hx=>?_⟩;have hg:=h.inv.good x hx;have h1:=hg.li;have h2:=hg.db;exact⟨hg.mayE,(h.ends x hx).1,(h.ends x hx).2,h1.1,h1.2,h2.1,h2.2⟩
theorem LInv.fits{ps:List Int}{ls:List Ln}(h:LInv ps ls):∀x∈ls,x.Fits:=fun x hx=>(h.inv.good x hx).fits
theorem mofE_good{σ:Hs}(h:HInv σ):mofE σ=0:=by
 unfold mofE;rw[if_neg (fun q=>q h.li.okP),if_neg (uF h.li.len),if_neg (fun q=>q h.li.okL),if_neg (uF h.bi.len),if_neg (fun q=>q ⟨⟨h.bi.rise,fun x hx=>⟨h.bi.may x hx,uF (h.bi.bd x hx),(h.bi.bd x hx).2⟩⟩,uF h.bi.n1⟩),if_neg (by rintro⟨o,ho,hn⟩;exact hn (h.own o ho))]
theorem mofProg:MofProg (MIs (fun _=>True)):=⟨fun{w σ vp vl vo} hs hi=>(mof_any hs (fun p hp=>by have:=hi.li.bd p hp;unfold In8;omega) hi.li.fits (fun x hx=>(hi.bi.may x hx).fits (uS (hi.bi.bd x hx) hi.bi.n2)) (uF hi.bi.n1) hi.bi.n2 hi.lens.2.2).mono (by
 rintro e w' ⟨hb,⟨_,k,he,hk,hm⟩|⟨hn,_⟩⟩
 ·exact⟨k,he,hk,hm,hb⟩
 exact absurd (mofE_good hi) hn)⟩
def aUc(D:Nat→Prop)(w w':World):Prop:=∀j,w.heap.size≤j→j<w'.heap.size→D j
theorem pAP{D:Nat→Prop}{w w':World}{k G M gb:Nat}{vb:Value}{σ:Hs}(hD:aUc D w w')(h:MM w' (fun j=>w.heap.size≤j) k G M gb vb σ):MIs D w' k σ:=
 ⟨G,M,gb,vb,h.blk,h.led,h.pb,hD _ h.dk h.blk.lt,hD _ h.dg h.led.blk.lt,hD _ h.dm h.led.map.lt,fun j hj=>hD _ (h.db j hj) (h.pb.lt hj).2⟩
theorem MIs.below{D:Nat→Prop}{w w':World}{k:Nat}{σ:Hs}(h:MIs D w k σ)(q:Below w.heap.size w w'):MIs D w' k σ:=by
 obtain⟨G,M,gb,vb,h⟩:=h;exact⟨G,M,gb,vb,h.below q⟩
theorem MIs.keep{D:Nat→Prop}{w w':World}{k g:Nat}{σ:Hs}{cs:Array Value}(h:MIs D w k σ)(b:Blk w g cs 36)(q:Keep (·=g) w w'):MIs D w' k σ:=by
 obtain⟨G,M,gb,vb,h⟩:=h;exact⟨G,M,gb,vb,h.blk.keep q (aAw h.blk b zX),h.led.keep q (aAw h.led.blk b zX) (h.led.map.ne_blk b),h.pb.keep q (aAw h.pb.blk b zX) (aB1 h.pb.row b zX),h.dk,h.dg,h.dm,h.db⟩
theorem aNg{w:World}{k G:Nat}{q:Value}(h:Blk w k #[.pointer (some ⟨G,0,none⟩),q] 82):Calls Tryz.prog 46 #[.pointer (some ⟨k,0,none⟩)] w (yS w (.bool true)):=by
 have m0:=h.cell 0;simp at m0;go_enter Tryz.func46,Tryz.ntmps46;go_wp2_with fail;go_ret;exact⟨rfl,rfl⟩
theorem mnew_any(w:World):Calls Tryz.prog 11 #[] w fun e w'=>∃g,e=.returned (.pointer (some ⟨g,0,none⟩))∧w.heap.size≤g∧(∀D,aUc D w w'→MIs D w' g ⟨[],[],[],1⟩)∧Below w.heap.size w w':=by
 have C1:=yH (new_any w);go_enter Tryz.func11,Tryz.ntmps11;go_wp2_with fail;refine C1.o.mono ?_;rintro e w1 ⟨G,M,rfl,hl,h1,h2,b1⟩;have HL:=yH hl;have H1:=yH h1;have H2:=yH h2;have B1:=yH b1;clear hl h1 h2 b1 C1;go_wp2_with fail;refine(pnew_any w1 w.heap.size B1.o.size).mono ?_;rintro e w2 ⟨rfl,hp,b2⟩;have HP:=yH hp;have B2:=yH b2;clear hp b2;go_wp2_with fail;go_ret;have b3:=(Below.refl w2.heap.size w2).alloc yL (.cells #[.pointer (some ⟨G,0,none⟩),.pointer (some ⟨w1.heap.size,0,none⟩)] 82);have s1:=B1.o.size;have s2:=B2.o.size;exact⟨_,rfl,zQ,fun D hD=>pAP hD ⟨Blk.new _ _ _,(HL.o.below B2.o).below b3,(HP.o.down12 (Nat.zero_le _)).below b3,zQ,H1.o,H2.o,fun j hj=>(HP.o.lt hj).1⟩,(B1.o.trans (B2.o.mono s1)).trans (b3.mono zQ)⟩
theorem aR7(HCp:aDu){w:World}{D:Nat→Prop}{k G M gb:Nat}{vb:Value}{σ:Hs}(h:MM w D k G M gb vb σ)(hi:HInv σ):Calls Tryz.prog 13 #[.pointer (some ⟨k,0,none⟩)] w fun e w'=>∃g,e=.returned (.pointer (some ⟨g,0,none⟩))∧w.heap.size≤g∧(∀D,aUc D w w'→MIs D w' g σ)∧Below w.heap.size w w':=by
 have CM:=yH (aNg h.blk);have CC:=yH (HCp h.led hi.li h.pb hi.bi);have H:=yH h;clear h hi HCp;go_enter Tryz.func13,Tryz.ntmps13;go_wp2_with fail;refine CM.o.mono ?_;rintro e w ⟨rfl,rfl⟩;have m0:=H.o.blk.cell 0;have m1:=H.o.blk.cell 1;simp at m0 m1;go_wp2_with fail;refine CC.o.mono ?_;rintro e w2 ⟨G2,M2,gb2,vb2,rfl,hl,hp,h1,h2,b2⟩;have HL:=yH hl;have HP:=yH hp;have B2:=yH b2;have HN:=yH (And.intro h1 h2);clear hl hp b2 h1 h2 m0 m1 CC CM H;go_wp2_with fail;go_ret;have b3:=(Below.refl w2.heap.size w2).alloc yL (.cells #[.pointer (some ⟨G2,0,none⟩),.pointer (some ⟨gb2,0,none⟩)] 82);have s2:=B2.o.size;exact⟨_,rfl,s2,fun D hD=>pAP hD ⟨Blk.new _ _ _,HL.o.below b3,(HP.o.down12 (Nat.zero_le _)).below b3,s2,HN.o.1,HN.o.2,fun j hj=>(HP.o.lt hj).1⟩,B2.o.trans (b3.mono s2)⟩
theorem mstate_any{w:World}{D:Nat→Prop}{k G M gb:Nat}{vb:Value}{σ:Hs}(h:MM w D k G M gb vb σ)(hi:HInv σ):Calls Tryz.prog 21 #[.pointer (some ⟨k,0,none⟩)] w (aRe w σ):=by
 have b1:=(Below.refl w.heap.size w).alloc yL (.cells #[.slice none 0 0,.slice none 0 0,.slice none 0 0,.int .u64 0] 46);have KX:=yH (Blk.new w #[.slice none 0 0,.slice none 0 0,.slice none 0 0,.int .u64 0] 46);have H:=yH (h.below b1);have B1:=yH b1;have II:=yH hi;clear h hi b1;go_enter Tryz.func21,Tryz.ntmps21
 go_upto_region 1 with fail
 generalize w.alloc (.cells #[.slice none 0 0,.slice none 0 0,.slice none 0 0,.int .u64 0] 46)=W at *;go_wp2_with fail;refine(aNg H.o.blk).mono ?_;rintro e W ⟨rfl,rfl⟩;have m0:=H.o.blk.cell 0;have m1:=H.o.blk.cell 1;simp at m0 m1;go_wp2_with fail
 go_quiet (fail)
 have B2:=yH (below_drewN B1.o nq);have KX2:=yH (show Blk (W.drewN nq) w.heap.size #[.slice none 0 0,.slice none 0 0,.slice none 0 0,.int .u64 0] 46 from KX.o);have H2:=yH (H.o.below (below_drewN yZ nq));generalize W.drewN nq=W2 at *;clear m0 m1 KX H B1;go_wp2_with fail;refine(aRb H2.o.led II.o.li).mono ?_;rintro e w3 ⟨vp,rfl,hp,b3⟩;have HP:=yH hp;have B3:=yH b3;clear hp b3;go_wp2_with fail;refine(aOn (H2.o.below B3.o).led II.o.li).mono ?_;rintro e w4 ⟨vl,rfl,hl,b4⟩;have HL:=yH hl;have B4:=yH b4;clear hl b4;go_wp2_with fail;refine(pall_any ((H2.o.below B3.o).below B4.o).pb (uF II.o.bi.len)).mono ?_;rintro e w5 ⟨vo,rfl,ho,b5⟩;have HO:=yH ho;have B5:=yH b5;clear ho b5;go_wp2_with fail;refine(aJc (((H2.o.below B3.o).below B4.o).below B5.o).pb.blk).mono ?_;rintro e w5 ⟨rfl,rfl⟩;have s2:=B2.o.size;have s3:=B3.o.size;have s4:=B4.o.size;have KX5:=yH (((KX2.o.below B3.o KX2.o.lt).below B4.o (yM KX2.o.lt s3)).below B5.o (yM KX2.o.lt (Nat.le_trans s3 s4)));have P5:=yH ((HP.o.below B4.o).below B5.o);have L5:=yH (HL.o.below B5.o);obtain⟨po,pc,rfl,_⟩:=P5.o.look;obtain⟨lo,lc,rfl,_⟩:=L5.o.look;obtain⟨oo,oc,rfl,_⟩:=HO.o.look;go_wp2_with (refine aAa rfl 46 (.tmp 2) (.tmp 27) rfl w.heap.size #[.slice po σ.ps.length pc,.slice lo σ.ls.length lc,.slice oo σ.l.length oc,.int .u64 σ.N] rfl rfl 46 _ KX5.o.out zW rfl zK ?_);have kk:=aAc (w:=w5) w.heap.size #[.slice po σ.ps.length pc,.slice lo σ.ls.length lc,.slice oo σ.l.length oc,.int .u64 σ.N];refine bodyPost_ret (v:=.agg #[.slice po σ.ps.length pc,.slice lo σ.ls.length lc,.slice oo σ.l.length oc,.int .u64 σ.N]) (results_cell_row rfl _ _ w.heap.size 46 #[.slice po σ.ps.length pc,.slice lo σ.ls.length lc,.slice oo σ.l.length oc,.int .u64 σ.N] (0,0) _ rfl (setRow_heap w5 w.heap.size _ _ _ (0,0) KX5.o.out) Tryz.underlying46 rfl zW) rfl ?_;have bb:Below w.heap.size w w5:=andB (andB (andB B2.o (B3.o)) B4.o) B5.o;exact⟨_,_,_,rfl,.inl ((P5.o.keep kk (aLn P5.o KX5.o zX)).base zQ),.inl ((L5.o.keep kk (aLn L5.o KX5.o zX)).base zQ),.inl ((HO.o.keep kk (aLn HO.o KX5.o zX)).base zQ),bb.trans (kk.below bb.size (fun j hj e=>zQ))⟩
theorem aUd(l:List Gt)(k:Nat)(x:Gt)(h:k<l.length):(aAr l).take (k*2)++x.vals++(aAr l).drop (k*2+2)=aAr (l.set k x):=by
 have e0:aAr l=aAr (l.take k)++aAr (l.drop k):=by rw[←aD5,List.take_append_drop]
 have e1:aAr l=aAr (l.take (k+1))++aAr (l.drop (k+1)):=by rw[←aD5,List.take_append_drop]
 have h1:(aAr l).take (k*2)=aAr (l.take k):=by rw[e0,List.take_left' (by rw[aCs,List.length_take];omega)]
 have h2:(aAr l).drop (k*2+2)=aAr (l.drop (k+1)):=by rw[e1,List.drop_left' (by rw[aCs,List.length_take];omega)]
 rw[h1,h2,List.set_eq_take_append_cons_drop,if_pos h,aD5,show x::l.drop (k+1)=[x]++l.drop (k+1)from rfl,aD5,aTq,List.append_assoc]
theorem gots_set{w:World}{g k:Nat}{e:TypeId}{d:List Gt}(h:Blk w g (aAr d).toArray e)(hk:k<d.length)(x:Gt):Blk (w.setCells g (k*2) x.vals) g (aAr (d.set k x)).toArray e:=by
 obtain⟨cur',hb',hc'⟩:=aCw (w:=w) (e:=e) x.vals (k*2) _ h (by rw[Gt.vals_len,List.size_toArray,aCs];omega);rw[Gt.vals_len,yG,aUd d k x hk]at hc';rw[←hc'];exact hb'
theorem gots_there{w:World}{g k:Nat}{e:TypeId}{d:List Gt}(h:Blk w g (aAr d).toArray e)(hk:k<d.length):w.there g (k*2) 2:=fun j hj=>⟨by
 rw[h.cell,Array.getElem?_eq_getElem (by rw[List.size_toArray,aCs];omega)];rfl,h.frozen _⟩
def aGs(hs:List Gt)(n:Nat):List Gt:=hs++List.replicate (n - hs.length) ⟨0,0⟩
theorem aOv{hs:List Gt}{n:Nat}(h:hs.length≤n):(aGs hs n).length=n:=by
 unfold aGs;rw[List.length_append,List.length_replicate];omega
theorem gotsAt_set{hs:List Gt}{n:Nat}(h:hs.length<n)(x:Gt):(aGs hs n).set hs.length x=aGs (hs++[x]) n:=by
 unfold aGs;rw[List.set_append_right _ _ yL,Nat.sub_self,List.append_assoc,List.length_append,show n - hs.length=(n - (hs.length+1))+1 by omega,List.replicate_succ];rfl
theorem aUe{hs:List Gt}{n:Nat}(h:hs.length=n):aGs hs n=hs:=by
 unfold aGs;rw[h,Nat.sub_self];simp
theorem aUf{w:World}{base g n:Nat}{e:TypeId}(h:w.ownsRow base e 2 (.slice (some ⟨g,0,none⟩) n n) n (madeCells #[.int .i64 0,.int .i64 0] (n*2)).toList)(hn:1≤n∧n≤8):Blk w g (aAr (aGs [] n)).toArray e:=by
 have hc:(madeCells #[.int .i64 0,.int .i64 0] (n*2)).toList=aAr (aGs [] n):=by
  rcases(show n=1∨n=2∨n=3∨n=4∨n=5∨n=6∨n=7∨n=8 by omega)with rfl|rfl|rfl|rfl|rfl|rfl|rfl|rfl <;> kernel_rfl
 rw[hc]at h;obtain⟨hl,hx⟩:=h;rcases hx with⟨hx,_⟩|⟨g',cap',cur,hv,hbase,hb,h1,h2,h3,h4⟩
 ·cases hx
 cases hv
 have:cur.toList=aAr (aGs [] n):=by rw[←h4,List.take_of_length_le (by rw[Array.length_toList,h3];exact Nat.le_refl _)]
 rw[←this];exact hb
def ApIn(B gr:Nat)(j:Nat):Prop:=B≤j∧j≠gr
def ApAt(B gr k2 n:Nat)(W:World)(σ:Hs)(xs:List Stp)(i:Value)(wr:World):Prop:=∃(j:Nat) (τ:Hs) (hs:List Gt),j≤n∧i=.int .i64 j∧runF σ xs 0 []=runF τ (xs.drop j) j hs∧hs.length=j∧HInv τ∧MIs (ApIn B gr) wr k2 τ∧
 Blk wr gr (aAr (aGs hs n)).toArray 93∧Below B W wr
theorem mapply_any(HCp:aDu){w:World}{D:Nat→Prop}{k G M gb:Nat}{vb:Value}{σ:Hs}(h:MM w D k G M gb vb σ)(hD:aE6 D w)(hi:HInv σ)(x:Cm)(hx:x.In w)(HK:∀s∈x.xs,KdAns s):
  Calls Tryz.prog 16 #[.pointer (some ⟨k,0,none⟩),.agg #[.slice x.a x.n x.c]] w (aCt (MIs D) w k σ x.xs):=by
 obtain⟨xa,xn,xc,xs⟩:=x;have hxl:xs.length=xn:=hx.2.1;have b1:=(Below.refl w.heap.size w).alloc yL (.cells #[.slice xa xn xc] 32);have b2:=b1.alloc b1.size (.cells #[.int .i64 0,.int .i64 0,.slice none 0 0] 36);have KX:=yH ((Blk.new w #[.slice xa xn xc] 32).alloc (.cells #[.int .i64 0,.int .i64 0,.slice none 0 0] 36));have KR:=yH (pAB (w.alloc (.cells #[.slice xa xn xc] 32)) #[.int .i64 0,.int .i64 0,.slice none 0 0] 36 (g:=w.heap.size+1) zV);have HM:=yH (h.below b2);have HXL:=yH hxl;have HX:Hid (SlIn Stp.vals 10 Stp.Fits ((w.alloc (.cells #[.slice xa xn xc] 32)).alloc (.cells #[.int .i64 0,.int .i64 0,.slice none 0 0] 36)) xa xn xc xs):=yH (SlIn.below hx b2);have B2:=yH b2;have LT:=yH (hD.of_le b2.size);have II:=yH hi;have KA:=yH HK;have hwz:((w.alloc (.cells #[.slice xa xn xc] 32)).alloc (.cells #[.int .i64 0,.int .i64 0,.slice none 0 0] 36)).heap.size=w.heap.size+2:=zV
 have WZ:=yH hwz;clear h hD hi hx b1 b2 HK hxl hwz;go_enter Tryz.func16,Tryz.ntmps16
 go_upto_region 1 with fail
 generalize (w.alloc (.cells #[.slice xa xn xc] 32)).alloc (.cells #[.int .i64 0,.int .i64 0,.slice none 0 0] 36)=W at *;go_wp2_with fail;refine(aNg HM.o.blk).mono ?_;rintro e W ⟨rfl,rfl⟩;have x0:=KX.o.cell 0;simp at x0
 by_cases hbad:xn<1∨8<xn
 ·have AE:Hid (aBe σ xs=(σ,3,0,[])):=yH (by unfold aBe;rw[if_pos (uF HXL.o)]);have q1:decide ((xn:Int)<1)=decide (xn<1):=decide_eq_decide.2 zQ;have q2:xn<1∨(¬xn<1∧decide ((8:Int)<(xn:Int))=true):=by rcases hbad with h|h;exact .inl h;by_cases h1:xn<1;exact .inl h1;exact .inr ⟨h1,zU⟩
  clear hbad;rcases q2 with h1|⟨h1,q2⟩
  ·rw[decide_eq_true h1]at q1;clear h1;go_wp2_with (refine aAa rfl 36 (.tmp 4) (.tmp 28) rfl (w.heap.size+1) #[.int .i64 3,.int .i64 0,.slice none 0 0] rfl rfl 36 _ KR.o.out zW rfl zK ?_);refine bodyPost_ret (v:=.agg #[.int .i64 3,.int .i64 0,.slice none 0 0]) (results_cell_row rfl _ _ (w.heap.size+1) 36 #[.int .i64 3,.int .i64 0,.slice none 0 0] (0,0) _ rfl (setRow_heap _ (w.heap.size+1) _ _ _ (0,0) KR.o.out) Tryz.underlying36 rfl zW) rfl ?_;have kk:=aAc (w:=W) (w.heap.size+1) #[.int .i64 3,.int .i64 0,.slice none 0 0];obtain⟨_,a2,a3⟩:=HM.o.apart;unfold aCt;rw[AE.o];exact⟨_,rfl,.inl ⟨rfl,.inl ⟨rfl,rfl⟩⟩,MIs.keep ⟨_,_,_,_,HM.o⟩ KR.o kk,(pAD B2.o).trans_new kk (fun j hj e=>zQ)⟩
  rw[decide_eq_false h1]at q1;clear h1;go_wp2_with (refine aAa rfl 36 (.tmp 4) (.tmp 28) rfl (w.heap.size+1) #[.int .i64 3,.int .i64 0,.slice none 0 0] rfl rfl 36 _ KR.o.out zW rfl zK ?_);refine bodyPost_ret (v:=.agg #[.int .i64 3,.int .i64 0,.slice none 0 0]) (results_cell_row rfl _ _ (w.heap.size+1) 36 #[.int .i64 3,.int .i64 0,.slice none 0 0] (0,0) _ rfl (setRow_heap _ (w.heap.size+1) _ _ _ (0,0) KR.o.out) Tryz.underlying36 rfl zW) rfl ?_;have kk:=aAc (w:=W) (w.heap.size+1) #[.int .i64 3,.int .i64 0,.slice none 0 0];obtain⟨_,a2,a3⟩:=HM.o.apart;unfold aCt;rw[AE.o];exact⟨_,rfl,.inl ⟨rfl,.inl ⟨rfl,rfl⟩⟩,MIs.keep ⟨_,_,_,_,HM.o⟩ KR.o kk,(pAD B2.o).trans_new kk (fun j hj e=>zQ)⟩
 have q1:decide ((xn:Int)<1)=false:=zU
 have q2:decide ((8:Int)<(xn:Int))=false:=zU
 have XN:Hid (1≤xn∧xn≤8):=yH zQ;clear hbad;go_wp2_with fail;refine(aR7 HCp HM.o II.o).mono ?_;rintro e w3 ⟨k2,rfl,hk2,hI2,b3⟩;have I2:=yH hI2;have B3:=yH b3;have x0':=(KX.o.below B3.o KX.o.lt).cell 0;simp at x0';have xn1:=XN.o;clear hI2 b3 hk2 x0;obtain⟨i0,hi,hz0,hz1,hz2⟩:=info_parts info_gt;go_wp2_with (at_make;refine wpList_make_full _ rfl _ _ 34 rfl w3.heap.size 93 i0 (.agg #[.int .i64 0,.int .i64 0]) 2 Tryz.underlying34 hi hz0 hz1 _ _ _ _ xn rfl rfl rfl rfl (uT hz2) zE yL ?_);intro w4 hown hgr;have b4:Below w3.heap.size w3 w4:=(Below.refl w3.heap.size w3).grown hgr yL (fun k h=>xW);have HG:=yH (aUf hown XN.o);have M4:=yH ((I2.o (ApIn W.heap.size w3.heap.size) (fun j h1 h2=>⟨h1,zQ⟩)).below b4);have B4:=yH (andB B3.o b4);clear hown hgr b4 x0' hi hz0 hz1 hz2 i0;have KX4:=yH (KX.o.below B4.o KX.o.lt);have x0:=KX4.o.cell 0;simp at x0;go_wp2_with fail;clear x0
 go_loopw [38] (ApAt W.heap.size w3.heap.size k2 xn W σ xs) (fun i _=>xn - (intOf i).toNat)
 case atStart=>exact⟨0,σ,[],zQ,rfl,rfl,rfl,II.o,M4.o,HG.o,B4.o⟩
 obtain⟨j,τ,hs,hj,rfl,hrun,hlen,hti,hm,hg,hb⟩:=hrel;have KR1:=yB KR hb;have BW:=yH hb;have RU:=yH hrun;have SL:=yH hlen;have TI:=yH hti;have IM:=yH hm;have GB:=yH hg;have wz:=WZ.o;have hgl:=hg.lt;have GR:Hid (W.heap.size≤w3.heap.size∧w3.heap.size<wr.heap.size∧W.heap.size=w.heap.size+2):=yH ⟨B3.o.size,hgl,wz⟩;clear hrun hlen hti hm hg hgl wz
 by_cases hjl:j<xn
 ·have hji:(j:Int)<(xn:Int):=zQ
  have hj0:(0:Int)≤(j:Int):=zQ
  have q1:decide ((j:Int)<(xn:Int))=true:=uN hjl
  obtain⟨_,_,hfit,_,_,hcell⟩:=SlIn.below HX.o hb;obtain⟨b,off,hxa,hbl,hc⟩:=hcell zQ;subst hxa;have hjx:j<xs.length:=by rw[HXL.o];exact hjl
  have RD:=yH (runF_drop (τ:=τ) (xs:=xs) (k:=j) (i:=j) (gs:=hs) hjx);have FS:=yH (hfit _ (List.getElem_mem hjx));have KD:=yH (KA.o _ (List.getElem_mem hjx));have c0:=hc j hjx 0;have c1:=hc j hjx 1;have c2:=hc j hjx 2;have c3:=hc j hjx 3;have c4:=hc j hjx 4;have c5:=hc j hjx 5;have c6:=hc j hjx 6;have c7:=hc j hjx 7;have c8:=hc j hjx 8;have c9:=hc j hjx 9;generalize xs[j]=s at RD FS KD c0 c1 c2 c3 c4 c5 c6 c7 c8 c9;obtain⟨kd,sa,sb,sc,sd,sn,sm,su,se,sq⟩:=s
  replace c0:=c0 _ rfl
  replace c1:=c1 _ rfl
  replace c2:=c2 _ rfl
  replace c3:=c3 _ rfl
  replace c4:=c4 _ rfl
  replace c5:=c5 _ rfl
  replace c6:=c6 _ rfl
  replace c7:=c7 _ rfl
  replace c8:=c8 _ rfl
  replace c9:=c9 _ rfl
  rw[Nat.add_zero]at c0;have HJ:=yH hjl;clear hfit hcell hc hjx hj hb;have bz:=below_setRow ((Below.refl wr.heap.size wr).alloc yL (.cells #[.int .u8 0,.int .u8 0,.int .u8 0,.int .u8 0,.int .u8 0,.int .i64 0,.int .i64 0,.int .i64 0,.int .i64 0,.int .u64 0] 87)) (Nat.le_refl wr.heap.size) #[.int .u8 kd,.int .u8 sa,.int .u8 sb,.int .u8 sc,.int .u8 sd,.int .i64 sn,.int .i64 sm,.int .i64 su,.int .i64 se,.int .u64 sq];have KS:=yH (show Blk ((wr.alloc (.cells #[.int .u8 0,.int .u8 0,.int .u8 0,.int .u8 0,.int .u8 0,.int .i64 0,.int .i64 0,.int .i64 0,.int .i64 0,.int .u64 0] 87)).setRow wr.heap.size #[.int .u8 kd,.int .u8 sa,.int .u8 sb,.int .u8 sc,.int .u8 sd,.int .i64 sn,.int .i64 sm,.int .i64 su,.int .i64 se,.int .u64 sq]) wr.heap.size _ 87 from setRow_heap _ _ _ _ _ (0,0) (Blk.new wr _ _))
  go_upto_region 10 with(refine aAa rfl 87 (.tmp 8) (.tmp 42) rfl wr.heap.size #[.int .u8 kd,.int .u8 sa,.int .u8 sb,.int .u8 sc,.int .u8 sd,.int .i64 sn,.int .i64 sm,.int .i64 su,.int .i64 se,.int .u64 sq] rfl rfl 87 _ (Blk.new wr #[.int .u8 0,.int .u8 0,.int .u8 0,.int .u8 0,.int .u8 0,.int .i64 0,.int .i64 0,.int .i64 0,.int .i64 0,.int .u64 0] 87).out zW rfl zK ?_)
  generalize (wr.alloc (.cells #[.int .u8 0,.int .u8 0,.int .u8 0,.int .u8 0,.int .u8 0,.int .i64 0,.int .i64 0,.int .i64 0,.int .i64 0,.int .u64 0] 87)).setRow wr.heap.size #[.int .u8 kd,.int .u8 sa,.int .u8 sb,.int .u8 sc,.int .u8 sd,.int .i64 sn,.int .i64 sm,.int .i64 su,.int .i64 se,.int .u64 sq]=w5 at *;have KR2:=yB KR1 bz;have GB2:=yB GB bz;have IM2:=yH (IM.o.below bz);have BW2:=yT BW bz;have S5:=yH bz.size;clear c0 c1 c2 c3 c4 c5 c6 c7 c8 c9 bz KR1 GB IM BW;have s0:=KS.o.cell 0;have s1:=KS.o.cell 1;have s2:=KS.o.cell 2;have s3:=KS.o.cell 3;have s4:=KS.o.cell 4;have s5:=KS.o.cell 5;have s6:=KS.o.cell 6;have s7:=KS.o.cell 7;have s8:=KS.o.cell 8;have s9:=KS.o.cell 9;have sl:=KS.o.lt;simp at s0 s1 s2 s3 s4 s5 s6 s7 s8 s9;obtain⟨G5,M5,gb5,vb5,mm5⟩:=IM2.o;have CD:=yH (mdo_any mm5 (fun j hj=>⟨uS GR.o S5.o,uS GR.o S5.o⟩) TI.o ⟨kd,sa,sb,sc,sd,sn,sm,su,se,sq⟩ FS.o KD.o);clear mm5;go_wp2_with fail;refine CD.o.mono ?_;rintro e w6 ⟨rfl,hm6,k6⟩;have hgr:=GR.o;have KR6:=yH (KR2.o.keep k6 (fun h=>uF h.1));have GB6:=yH (GB2.o.keep k6 (fun h=>h.2 rfl));have BW6:=yH (BW2.o.trans (k6.below BW2.o.size (fun j hj h=>uF h.1)));have IM6:=yH hm6;have HW:Hid (HInv (aBh τ ⟨kd,sa,sb,sc,sd,sn,sm,su,se,sq⟩).1):=yH (TI.o.step _);generalize aBh τ ⟨kd,sa,sb,sc,sd,sn,sm,su,se,sq⟩=R at RD IM6 HW;obtain⟨ρ,gt,er⟩:=R;clear hm6 k6 s0 s1 s2 s3 s4 s6 s7 s8 s9 sl KR2 GB2 BW2 IM2 KS CD hgr
  by_cases he:er=0
  ·subst he;have RR:=yH (RU.o.trans (RD.o.trans (if_neg (fun q=>q rfl))));have hjl:=HJ.o;have hsl:=SL.o;have TH:=yH (gots_there (k:=j) GB6.o (by rw[aOv zQ];exact hjl))
   have GS:=yH (show Blk (w6.setCells w3.heap.size (j*2) [.int .i64 gt.gx,.int .i64 gt.gy]) w3.heap.size (aAr (aGs (hs++[gt]) xn)).toArray 93 from by
    have h:=gots_set (k:=j) GB6.o (by rw[aOv zQ];exact hjl) gt;subst hsl
    rwa [gotsAt_set hjl gt]at h)
   have kk:Keep (·=w3.heap.size) w6 (w6.setCells w3.heap.size (j*2) [.int .i64 gt.gx,.int .i64 gt.gy]):=Keep.setCells _ _ (Keep.refl _ _) (.inl rfl);have KK:=yH kk;obtain⟨W7,hW7⟩:∃W7,W7=w6.setCells w3.heap.size (j*2) [.int .i64 gt.gx,.int .i64 gt.gy]:=⟨_,rfl⟩;rw[←hW7]at GS KK;have HW7:=yH hW7
   have IM7:Hid (MIs (ApIn W.heap.size w3.heap.size) W7 k2 ρ):=yH (by
    obtain⟨G6,M6,gb6,vb6,h⟩:=IM6.o;exact⟨G6,M6,gb6,vb6,h.blk.keep KK.o (fun e=>h.dk.2 e),h.led.keep KK.o (fun e=>h.dg.2 e) (fun e=>h.dm.2 e),h.pb.keep KK.o (fun e=>(h.db gb6 (.inl rfl)).2 e) (fun b hb e=>(h.db b (.inr hb)).2 e),h.dk,h.dg,h.dm,h.db⟩)
   have BW7:=yH (BW6.o.trans (KK.o.below BW6.o.size (fun j hj e=>uF GR.o)));clear hW7 kk hsl;go_wp2_with (refine wpList_store_mid rfl 93 (.tmp 60) (.tmp 59) rfl w3.heap.size (j*2) #[.int .i64 gt.gx,.int .i64 gt.gy] rfl rfl TH.o zW zK ?_;rw[←HW7.o]);have hsl:=SL.o;exact⟨⟨j+1,ρ,hs++[gt],zQ,by go_num,RR.o,by rw[List.length_append,hsl];rfl,HW.o,IM7.o,GS.o,BW7.o⟩,zS⟩
  have q2:(er != 0)=true:=x5
  have AE:=yH (applyF_err (by rw[HXL.o];exact XN.o) (RU.o.trans (RD.o.trans (if_pos he))) he);clear he;go_wp2_with (refine aAa rfl 36 (.tmp 4) (.tmp 54) rfl (w.heap.size+1) #[.int .i64 er,.int .i64 j,.slice none 0 0] rfl rfl 36 _ KR6.o.out zW rfl zK ?_);refine bodyPost_ret (v:=.agg #[.int .i64 er,.int .i64 j,.slice none 0 0]) (results_cell_row rfl _ _ (w.heap.size+1) 36 #[.int .i64 er,.int .i64 j,.slice none 0 0] (0,0) _ rfl (setRow_heap _ (w.heap.size+1) _ _ _ (0,0) KR6.o.out) Tryz.underlying36 rfl zW) rfl ?_;have kk:=aAc (w:=w6) (w.heap.size+1) #[.int .i64 er,.int .i64 j,.slice none 0 0];unfold aCt;rw[AE.o];exact⟨_,rfl,.inl ⟨rfl,.inl ⟨rfl,rfl⟩⟩,(MIs.below ⟨_,_,_,_,HM.o⟩ BW6.o).keep KR6.o kk,((pAD (S:=(·=k)) B2.o).trans (pAD BW6.o)).trans_new kk (fun j hj e=>zQ)⟩
 have hjn:j=xn:=zQ
 subst hjn;have AE:=yH (applyF_ok (by rw[HXL.o];exact XN.o) (RU.o.trans (by rw[←HXL.o];exact runF_end)));obtain⟨G6,M6,gb6,vb6,mm⟩:=IM.o;have MM6:=yH mm;have KA6:=yH (HM.o.blk.below BW.o HM.o.blk.lt);have e0:=mm.blk.cell 0;have e1:=mm.blk.cell 1;simp at e0 e1;clear hjl hj hb mm RU
 go_upto_region 16 with(refine aAa rfl 80 (.tmp 68) (.tmp 66) rfl k #[.pointer (some ⟨G6,0,none⟩),.pointer (some ⟨gb6,0,none⟩)] rfl rfl 82 _ KA6.o.out zW rfl zK ?_)
 have kk:=aAc (w:=wr) k #[.pointer (some ⟨G6,0,none⟩),.pointer (some ⟨gb6,0,none⟩)];have hgr:=GR.o;have hkW:=HM.o.blk.lt;have KR7:=yH (KR1.o.keep kk (aAw KR1.o KA6.o zX));have GB7:=yH (GB.o.keep kk (aAw GB.o KA6.o zX))
 have M7:Hid (MIs D (wr.setRow k #[.pointer (some ⟨G6,0,none⟩),.pointer (some ⟨gb6,0,none⟩)]) k τ):=yH ⟨G6,M6,gb6,vb6,setRow_heap wr k _ _ _ (0,0) KA6.o.out,
  MM6.o.led.keep kk (fun e=>uF MM6.o.dg.1) (fun e=>uF MM6.o.dm.1),MM6.o.pb.keep kk (fun e=>by have:=(MM6.o.db gb6 (.inl rfl)).1;omega) (fun b hb e=>by have:=(MM6.o.db b (.inr hb)).1;omega),
  HM.o.dk,LT.o _ MM6.o.dg.1,LT.o _ MM6.o.dm.1,fun j hj=>LT.o _ (MM6.o.db j hj).1⟩
 have K7:=yH (((pAD (S:=(·=k)) B2.o).trans (pAD BW.o)).trans kk);clear kk e0 e1 hgr hkW KR1 GB BW MM6 KA6;generalize wr.setRow k #[.pointer (some ⟨G6,0,none⟩),.pointer (some ⟨gb6,0,none⟩)]=w7 at *;go_wp2_with (refine aAa rfl 36 (.tmp 4) (.tmp 70) rfl (w.heap.size+1) #[.int .i64 0,.int .i64 0,.slice (some ⟨w3.heap.size,0,none⟩) j j] rfl rfl 36 _ KR7.o.out zW rfl zK ?_);refine bodyPost_ret (v:=.agg #[.int .i64 0,.int .i64 0,.slice (some ⟨w3.heap.size,0,none⟩) j j]) (results_cell_row rfl _ _ (w.heap.size+1) 36 #[.int .i64 0,.int .i64 0,.slice (some ⟨w3.heap.size,0,none⟩) j j] (0,0) _ rfl (setRow_heap _ (w.heap.size+1) _ _ _ (0,0) KR7.o.out) Tryz.underlying36 rfl zW) rfl ?_;have kk:=aAc (w:=w7) (w.heap.size+1) #[.int .i64 0,.int .i64 0,.slice (some ⟨w3.heap.size,0,none⟩) j j];have hgr:=GR.o;have hsl:=SL.o;have GB8:=GB7.o.keep kk (aAw GB7.o KR7.o zX);rw[aUe hsl]at GB8;unfold aCt;rw[AE.o];exact⟨_,rfl,.inl ⟨by rw[aCs],.inr ⟨w3.heap.size,_,by rw[hsl],zQ,GB8,by rw[hsl];unfold maxLen;omega,by rw[List.size_toArray,aCs];exact Nat.le_refl _,by rw[yG,List.take_of_length_le (by rw[aCs];exact Nat.le_refl _)]⟩⟩,M7.o.keep KR7.o kk,K7.o.trans_new kk (fun j hj e=>zQ)⟩
theorem aNh(HCp:aDu){Ok:Stp→Prop}(HK:∀s,Ok s→KdAns s):aHx Ok (MIs (fun _=>True)) where
 lt:=fun⟨_,_,_,_,h⟩=>h.blk.lt
 below:=fun h k=>h.below k
 other:=fun{w w' g k σ τ} h h2 hne q=>by
  obtain⟨G,M,gb,vb,h⟩:=h;obtain⟨_,_,_,_,h2⟩:=h2;exact⟨G,M,gb,vb,h.blk.keep q hne,h.led.keep q (aAw h.led.blk h2.blk zX) (h.led.map.ne_blk h2.blk),h.pb.keep q (aAw h.pb.blk h2.blk zX) (aB1 h.pb.row h2.blk zX),h.dk,h.dg,h.dm,h.db⟩
 rows:=fun{w w' g σ S} h q hS=>by
  obtain⟨G,M,gb,vb,h⟩:=h
  have far:∀{b:Nat} {cs:Array Value} {t:TypeId},Blk w b cs t→(t≠68∧t≠71∧t≠75∧t≠87∧t≠93)→¬S b:=fun{b cs t} hb ht hs=>by
   obtain⟨cur,e,h1,h2⟩:=hS b hs;have he:¬t≠e:=fun hne=>aAw hb (show Blk w b cur e from h1) hne rfl
   have he:=Decidable.not_not.1 he;subst he;rcases h2 with h2|h2|h2|h2|h2
   ·exact ht.1 h2
   ·exact ht.2.1 h2
   ·exact ht.2.2.1 h2
   ·exact ht.2.2.2.1 h2
   exact ht.2.2.2.2 h2
  have hm:¬S M:=fun hs=>by
   obtain⟨cur,e,h1,_⟩:=hS M hs;exact h.led.map.ne_blk (show Blk w M cur e from h1) rfl
  refine⟨G,M,gb,vb,h.blk.keep q (far h.blk zX),h.led.keep q (far h.led.blk zX) hm,h.pb.keep q (far h.pb.blk zX) (fun b hb=>?_),h.dk,h.dg,h.dm,h.db⟩;obtain⟨_,_,cur,hc⟩:=aAe h.pb.row hb;exact far (show Blk w b cur 197 from hc) zX
 new:=fun w=>(mnew_any w).mono fun e w' ⟨g,he,hg,hI,hb⟩=>⟨g,he,hI _ (fun _ _ _=>trivial),hg,hb⟩
 apply:=fun⟨_,_,_,_,h⟩ hi x hx ho=>mapply_any HCp h (fun _ _=>trivial) hi x hx (fun s hs=>HK s (ho s hs))
 state:=fun⟨_,_,_,_,h⟩ hi=>mstate_any h hi
 copy:=fun⟨_,_,_,_,h⟩ hi=>(aR7 HCp h hi).mono fun e w' ⟨g,he,hg,hI,hb⟩=>⟨g,he,hI _ (fun _ _ _=>trivial),hg,hb⟩
def way9(s t:Int)(σ:RS):Nat→RS
 | 0=>σ
 | k+1=>wayR s t (way9 s t σ k)
theorem aR8{f0:Int→Int→Int}{B s t want:Int}(h:GInv f0 B):∀k,(∀j,j<k→¬aEp s t (way9 s t ⟨f0,want,[]⟩ j))→RInv f0 B s t want k (way9 s t ⟨f0,want,[]⟩ k)
 | 0,_=>RInv.start h s t want
 | k+1,hj=>(aR8 h k (fun j hk=>hj j zQ)).step (hj k zQ)
theorem aNi{f0:Int→Int→Int}{B s t want:Int}(h:GInv f0 B)(k:Nat)(hj:∀j,j<k→¬aEp s t (way9 s t ⟨f0,want,[]⟩ j))(hd:aEp s t (way9 s t ⟨f0,want,[]⟩ k)):aAj f0 B s t want (way9 s t ⟨f0,want,[]⟩ k):=
 ⟨k,aR8 h k hj,hd⟩
def p9:List Int:=[1,2,3]
def l9:List Ln:=[⟨2,1,1,10,0⟩,⟨3,2,1,4,0⟩]
def m9:List Ln:=[⟨2,1,1,10,4⟩,⟨3,2,1,4,4⟩]
def p14:List Int:=[1,2]
def l14(d:Int):List Ln:=[⟨1,2,3,50,d⟩]
theorem aNj:(∀j,j<1→¬aEp 2 1 (way9 2 1 ⟨aAu p14 (l14 0) 3,20,[]⟩ j))∧aEp 2 1 (way9 2 1 ⟨aAu p14 (l14 0) 3,20,[]⟩ 1)∧payN p14 2 1 3 20 (way9 2 1 ⟨aAu p14 (l14 0) 3,20,[]⟩ 1)=1∧payE p14 2 1 3 20 (way9 2 1 ⟨aAu p14 (l14 0) 3,20,[]⟩ 1)=0∧payL p14 (l14 0) 2 1 3 20 (way9 2 1 ⟨aAu p14 (l14 0) 3,20,[]⟩ 1)=l14 20:=by
 unfold aEp;decide +kernel
theorem lv14_a(h:HInv ⟨p14,l14 0,[],1⟩):aBh ⟨p14,l14 0,[],1⟩ ⟨3,2,1,3,0,20,0,0,0,0⟩=(⟨p14,l14 20,[],1⟩,⟨1,0⟩,0):=by
 have hi:=aAx (ps:=p14) (ls:=l14 0) h.li 3;have hr:aBz (aAu p14 (l14 0) 3) 2 1 20=way9 2 1 ⟨aAu p14 (l14 0) 3,20,[]⟩ 1:=(aCe hi 2 1 20).eq (aNi hi 1 aNj.1 aNj.2.1);show((⟨p14,payL p14 (l14 0) 2 1 3 20 (aBz (aAu p14 (l14 0) 3) 2 1 20),[],1⟩:Hs),(⟨payN p14 2 1 3 20 (aBz (aAu p14 (l14 0) 3) 2 1 20),0⟩:Gt),payE p14 2 1 3 20 (aBz (aAu p14 (l14 0) 3) 2 1 20))=_;rw[hr,aNj.2.2.1,aNj.2.2.2.1,aNj.2.2.2.2]
theorem aNk:(∀j,j<1→¬aEp 2 1 (way9 2 1 ⟨aAu p14 (l14 20) 3,5,[]⟩ j))∧aEp 2 1 (way9 2 1 ⟨aAu p14 (l14 20) 3,5,[]⟩ 1)∧payN p14 2 1 3 5 (way9 2 1 ⟨aAu p14 (l14 20) 3,5,[]⟩ 1)=1∧payE p14 2 1 3 5 (way9 2 1 ⟨aAu p14 (l14 20) 3,5,[]⟩ 1)=0∧payL p14 (l14 20) 2 1 3 5 (way9 2 1 ⟨aAu p14 (l14 20) 3,5,[]⟩ 1)=l14 25:=by
 unfold aEp;decide +kernel
theorem lv14_b(h:HInv ⟨p14,l14 20,[],1⟩):aBh ⟨p14,l14 20,[],1⟩ ⟨3,2,1,3,0,5,0,0,0,0⟩=(⟨p14,l14 25,[],1⟩,⟨1,0⟩,0):=by
 have hi:=aAx (ps:=p14) (ls:=l14 20) h.li 3;have hr:aBz (aAu p14 (l14 20) 3) 2 1 5=way9 2 1 ⟨aAu p14 (l14 20) 3,5,[]⟩ 1:=(aCe hi 2 1 5).eq (aNi hi 1 aNk.1 aNk.2.1);show((⟨p14,payL p14 (l14 20) 2 1 3 5 (aBz (aAu p14 (l14 20) 3) 2 1 5),[],1⟩:Hs),(⟨payN p14 2 1 3 5 (aBz (aAu p14 (l14 20) 3) 2 1 5),0⟩:Gt),payE p14 2 1 3 5 (aBz (aAu p14 (l14 20) 3) 2 1 5))=_;rw[hr,aNk.2.2.1,aNk.2.2.2.1,aNk.2.2.2.2]
theorem aNl:(∀j,j<1→¬aEp 2 1 (way9 2 1 ⟨aAu p14 (l14 25) 3,26,[]⟩ j))∧aEp 2 1 (way9 2 1 ⟨aAu p14 (l14 25) 3,26,[]⟩ 1)∧payN p14 2 1 3 26 (way9 2 1 ⟨aAu p14 (l14 25) 3,26,[]⟩ 1)=0∧payE p14 2 1 3 26 (way9 2 1 ⟨aAu p14 (l14 25) 3,26,[]⟩ 1)=11∧payL p14 (l14 25) 2 1 3 26 (way9 2 1 ⟨aAu p14 (l14 25) 3,26,[]⟩ 1)=l14 25:=by
 unfold aEp;decide +kernel
theorem lv14_c(h:HInv ⟨p14,l14 25,[],1⟩):aBh ⟨p14,l14 25,[],1⟩ ⟨3,2,1,3,0,26,0,0,0,0⟩=(⟨p14,l14 25,[],1⟩,⟨0,0⟩,11):=by
 have hi:=aAx (ps:=p14) (ls:=l14 25) h.li 3;have hr:aBz (aAu p14 (l14 25) 3) 2 1 26=way9 2 1 ⟨aAu p14 (l14 25) 3,26,[]⟩ 1:=(aCe hi 2 1 26).eq (aNi hi 1 aNl.1 aNl.2.1);show((⟨p14,payL p14 (l14 25) 2 1 3 26 (aBz (aAu p14 (l14 25) 3) 2 1 26),[],1⟩:Hs),(⟨payN p14 2 1 3 26 (aBz (aAu p14 (l14 25) 3) 2 1 26),0⟩:Gt),payE p14 2 1 3 26 (aBz (aAu p14 (l14 25) 3) 2 1 26))=_;rw[hr,aNl.2.2.1,aNl.2.2.2.1,aNl.2.2.2.2]
theorem lv14_o1:aBh ⟨[],[],[],1⟩ ⟨1,1,0,0,0,0,0,0,0,0⟩=(⟨[1],[],[],1⟩,⟨0,0⟩,0):=by
 show((⟨aGt [] 1,[],[],1⟩:Hs),(⟨0,0⟩:Gt),aH1 [] 1)=_;rw[show aGt [] 1=[1] by decide,show aH1 [] 1=0 by decide]
theorem lv14_o2:aBh ⟨[1],[],[],1⟩ ⟨1,2,0,0,0,0,0,0,0,0⟩=(⟨p14,[],[],1⟩,⟨0,0⟩,0):=by
 show((⟨aGt [1] 2,[],[],1⟩:Hs),(⟨0,0⟩:Gt),aH1 [1] 2)=_;rw[show aGt [1] 2=p14 by decide,show aH1 [1] 2=0 by decide]
theorem lv14_o3:aBh ⟨p14,[],[],1⟩ ⟨2,1,2,3,0,50,0,0,0,0⟩=(⟨p14,l14 0,[],1⟩,⟨0,0⟩,0):=by
 show((⟨p14,aBa p14 [] 1 2 3 50,[],1⟩:Hs),(⟨0,0⟩:Gt),aAo p14 [] 1 2 3 50)=_;rw[show aBa p14 [] 1 2 3 50=l14 0 by decide +kernel,show aAo p14 [] 1 2 3 50=0 by decide +kernel]
theorem lv14_p:aBh ⟨p14,l14 20,[],1⟩ ⟨9,1,0,3,0,0,0,0,0,0⟩=(⟨p14,l14 20,[],1⟩,⟨20,0⟩,0):=by
 show((⟨p14,l14 20,[],1⟩:Hs),(⟨posL (l14 20) 1 3,0⟩:Gt),(0:Int))=_;rw[show posL (l14 20) 1 3=20 by decide +kernel]
theorem lv14_d:aBh ⟨p14,l14 20,[],1⟩ ⟨8,1,2,3,0,0,0,0,0,0⟩=(⟨p14,l14 20,[],1⟩,⟨20,50⟩,0):=by
 show((⟨p14,l14 20,[],1⟩:Hs),(⟨(lnAt (l14 20) 1 2 3).db,(lnAt (l14 20) 1 2 3).li⟩:Gt),(0:Int))=_;rw[show(lnAt (l14 20) 1 2 3).db=20 by decide +kernel,show(lnAt (l14 20) 1 2 3).li=50 by decide +kernel]
theorem aI1{τ τ':Hs}{s:Stp}{r:List Stp}{i:Nat}{gs:List Gt}{g:Gt}(h:aBh τ s=(τ',g,0)):runF τ (s::r) i gs=runF τ' r (i+1) (gs++[g]):=by
 rw[show runF τ (s::r) i gs=if(aBh τ s).2.2≠0 then(τ,(aBh τ s).2.2,i,[])else runF (aBh τ s).1 r (i+1) (gs++[(aBh τ s).2.1])from rfl,h,if_neg (fun e=>e rfl)]
theorem runF_no{τ τ':Hs}{s:Stp}{r:List Stp}{i:Nat}{gs:List Gt}{g:Gt}{e:Int}(h:aBh τ s=(τ',g,e))(he:e≠0):runF τ (s::r) i gs=(τ,e,i,[]):=by
 rw[show runF τ (s::r) i gs=if(aBh τ s).2.2≠0 then(τ,(aBh τ s).2.2,i,[])else runF (aBh τ s).1 r (i+1) (gs++[(aBh τ s).2.1])from rfl,h,if_pos he]
theorem aHz{σ τ:Hs}{xs:List Stp}{e:Int}{k:Nat}{gs:List Gt}(hl:1≤xs.length∧xs.length≤8)(h:runF σ xs 0 []=(τ,e,k,gs)):aBe σ xs=if e=0 then(τ,0,k,gs)else(σ,e,k,[]):=by
 unfold aBe;rw[if_neg zQ,h]
 by_cases he:e=0
 ·rw[if_neg (fun q=>q he),if_pos he,he]
 rw[if_pos he,if_neg he]
theorem lv14_A:aBe ⟨[],[],[],1⟩ [⟨1,1,0,0,0,0,0,0,0,0⟩,⟨1,2,0,0,0,0,0,0,0,0⟩,⟨2,1,2,3,0,50,0,0,0,0⟩]=(⟨p14,l14 0,[],1⟩,0,0,[⟨0,0⟩,⟨0,0⟩,⟨0,0⟩]):=
 (aHz ⟨zX,zX⟩ ((aI1 lv14_o1).trans ((aI1 lv14_o2).trans ((aI1 lv14_o3).trans rfl)))).trans rfl
theorem lv14_B(h:HInv ⟨p14,l14 0,[],1⟩):aBe ⟨p14,l14 0,[],1⟩ [⟨3,2,1,3,0,20,0,0,0,0⟩,⟨9,1,0,3,0,0,0,0,0,0⟩]=(⟨p14,l14 20,[],1⟩,0,0,[⟨1,0⟩,⟨20,0⟩]):=
 (aHz ⟨zX,zX⟩ ((aI1 (lv14_a h)).trans ((aI1 lv14_p).trans rfl))).trans rfl
theorem lv14_C(h:HInv ⟨p14,l14 20,[],1⟩)(h2:HInv ⟨p14,l14 25,[],1⟩):aBe ⟨p14,l14 20,[],1⟩ [⟨3,2,1,3,0,5,0,0,0,0⟩,⟨3,2,1,3,0,26,0,0,0,0⟩]=(⟨p14,l14 20,[],1⟩,11,1,[]):=
 (aHz ⟨zX,zX⟩ ((aI1 (lv14_b h)).trans (runF_no (lv14_c h2) zX))).trans rfl
theorem lv14_D:aBe ⟨p14,l14 20,[],1⟩ [⟨8,1,2,3,0,0,0,0,0,0⟩]=(⟨p14,l14 20,[],1⟩,0,0,[⟨20,50⟩]):=
 (aHz ⟨zX,zX⟩ ((aI1 lv14_d).trans rfl)).trans rfl
theorem lv14_E:aBe ⟨p14,l14 20,[],1⟩ []=(⟨p14,l14 20,[],1⟩,3,0,[]):=rfl
theorem aUg{Is:World→Nat→Hs→Prop}{Ok:Stp→Prop}(HO:∀s:Stp,s.kd=1∨s.kd=2∨s.kd=3∨s.kd=8∨s.kd=9→Ok s)(HM:aHx Ok Is):aTr:=fun w=>by
 have MP:=yH HM;have I0:Hid (HInv ⟨[],[],[],1⟩):=yH HInv.start;have I1:Hid (HInv ⟨p14,l14 0,[],1⟩):=yH (by have:=I0.o.apply [⟨1,1,0,0,0,0,0,0,0,0⟩,⟨1,2,0,0,0,0,0,0,0,0⟩,⟨2,1,2,3,0,50,0,0,0,0⟩];rwa [lv14_A]at this);have I2:Hid (HInv ⟨p14,l14 20,[],1⟩):=yH (by have:=I1.o.apply [⟨3,2,1,3,0,20,0,0,0,0⟩,⟨9,1,0,3,0,0,0,0,0,0⟩];rwa [lv14_B I1.o]at this);have I3:Hid (HInv ⟨p14,l14 25,[],1⟩):=yH (by have:=I2.o.step ⟨3,2,1,3,0,5,0,0,0,0⟩;rwa [lv14_b I2.o]at this);have OK:=yH HO;clear HM HO;go_enter Tryz.func10,Tryz.ntmps10;go_wp2_with fail;refine(MP.o.new _).mono ?_;rintro e w1 ⟨g,rfl,hg,hg0,b1⟩;have IG0:=yH hg;have GB:=yH hg0;have B1:=yH b1;clear hg hg0 b1;go_wp2_with fail;have ba:=(Below.refl w1.heap.size w1).alloc yL (.cells #[.int .u8 1,.int .u8 1,.int .u8 0,.int .u8 0,.int .u8 0,.int .i64 0,.int .i64 0,.int .i64 0,.int .i64 0,.int .u64 0,.int .u8 1,.int .u8 2,.int .u8 0,.int .u8 0,.int .u8 0,.int .i64 0,.int .i64 0,.int .i64 0,.int .i64 0,.int .u64 0,.int .u8 2,.int .u8 1,.int .u8 2,.int .u8 3,.int .u8 0,.int .i64 50,.int .i64 0,.int .i64 0,.int .i64 0,.int .u64 0] 87);have S00:=yH (Blk.new w1 #[.int .u8 1,.int .u8 1,.int .u8 0,.int .u8 0,.int .u8 0,.int .i64 0,.int .i64 0,.int .i64 0,.int .i64 0,.int .u64 0,.int .u8 1,.int .u8 2,.int .u8 0,.int .u8 0,.int .u8 0,.int .i64 0,.int .i64 0,.int .i64 0,.int .i64 0,.int .u64 0,.int .u8 2,.int .u8 1,.int .u8 2,.int .u8 3,.int .u8 0,.int .i64 50,.int .i64 0,.int .i64 0,.int .i64 0,.int .u64 0] 87);generalize w1.alloc (.cells #[.int .u8 1,.int .u8 1,.int .u8 0,.int .u8 0,.int .u8 0,.int .i64 0,.int .i64 0,.int .i64 0,.int .i64 0,.int .u64 0,.int .u8 1,.int .u8 2,.int .u8 0,.int .u8 0,.int .u8 0,.int .i64 0,.int .i64 0,.int .i64 0,.int .i64 0,.int .u64 0,.int .u8 2,.int .u8 1,.int .u8 2,.int .u8 3,.int .u8 0,.int .i64 50,.int .i64 0,.int .i64 0,.int .i64 0,.int .u64 0] 87)=w2 at *;have I_1:=yH (MP.o.below IG0.o ba);have B_2:=yT B1 ba;clear IG0 B1;clear ba;refine(aPr _ _ _ _).mono ?_;rintro e w3 ⟨rfl,b⟩;have I_3:=yH (MP.o.below I_1.o b);have B_4:=yT B_2 b;have S0_5:=yB S00 b;clear I_1 B_2 S00;clear b;have CA:=yH (MP.o.apply I_3.o I0.o ⟨_,3,3,[⟨1,1,0,0,0,0,0,0,0,0⟩,⟨1,2,0,0,0,0,0,0,0,0⟩,⟨2,1,2,3,0,50,0,0,0,0⟩]⟩ (aGj (xs:=[⟨1,1,0,0,0,0,0,0,0,0⟩,⟨1,2,0,0,0,0,0,0,0,0⟩,⟨2,1,2,3,0,50,0,0,0,0⟩]) S0_5.o rfl (by intro x hx;simp only[yI,yJ,or_false]at hx;rcases hx with rfl|rfl|rfl <;> exact aLm _ zX) zX) (fun s hs=>OK.o s (by simp only[yI,yJ,or_false]at hs;rcases hs with rfl|rfl|rfl <;> decide)));unfold aCt at CA;rw[lv14_A]at CA;go_wp2_with fail;refine CA.o.mono ?_;rintro e w4 ⟨v0,rfl,tv,ig,k⟩;have TN0:Hid (g<w3.heap.size):=yH (MP.o.lt I_3.o);have B_6:=yH (B_4.o.trans (k.below B_4.o.size (fun j hj e=>vH)));clear I_3 B_4;have IGa0:=yH ig;have TVa0:=yH tv;clear ig tv k CA
 go_upto_region 3 with(refine aAa rfl 36 (.tmp 2) (.tmp 16) rfl w4.heap.size #[.int .i64 0,.int .i64 0,v0] rfl rfl 36 _ (Blk.new w4 #[.int .i64 0,.int .i64 0,.slice none 0 0] 36).out zW rfl (by obtain⟨_,_,rfl⟩:=TVa0.o.shape;simp[Value.oneCell']) ?_)
 have ba:Below w4.heap.size w4 ((w4.alloc (.cells #[.int .i64 0,.int .i64 0,.slice none 0 0] 36)).setRow w4.heap.size #[.int .i64 0,.int .i64 0,v0]):=below_setRow ((Below.refl w4.heap.size w4).alloc yL (.cells #[.int .i64 0,.int .i64 0,.slice none 0 0] 36)) yL _;have R00:=yH (show Blk ((w4.alloc (.cells #[.int .i64 0,.int .i64 0,.slice none 0 0] 36)).setRow w4.heap.size #[.int .i64 0,.int .i64 0,v0]) w4.heap.size #[.int .i64 0,.int .i64 0,v0] 36 from setRow_heap _ _ _ _ _ (0,0) (Blk.new w4 #[.int .i64 0,.int .i64 0,.slice none 0 0] 36));have R0N:Hid (w4.heap.size≠g):=yH (Nat.ne_of_gt (MP.o.lt IGa0.o));generalize (w4.alloc (.cells #[.int .i64 0,.int .i64 0,.slice none 0 0] 36)).setRow w4.heap.size #[.int .i64 0,.int .i64 0,v0]=w5 at *;have K0:Hid (Keep (·=g) w4 w5):=yH (pAD ba);have B_7:=yT B_6 ba;have I_8:=yH (MP.o.below IGa0.o ba);clear B_6 IGa0;clear ba
 go_upto_region 4 with(refine aAa rfl 87 (.tmp 3) (.tmp 17) rfl w5.heap.size #[.int .u8 3,.int .u8 2,.int .u8 1,.int .u8 3,.int .u8 0,.int .i64 20,.int .i64 0,.int .i64 0,.int .i64 0,.int .u64 0] rfl rfl 87 _ (Blk.new w5 #[.int .u8 0,.int .u8 0,.int .u8 0,.int .u8 0,.int .u8 0,.int .i64 0,.int .i64 0,.int .i64 0,.int .i64 0,.int .u64 0] 87).out zW rfl zK ?_)
 have ba:Below w5.heap.size w5 ((w5.alloc (.cells #[.int .u8 0,.int .u8 0,.int .u8 0,.int .u8 0,.int .u8 0,.int .i64 0,.int .i64 0,.int .i64 0,.int .i64 0,.int .u64 0] 87)).setRow w5.heap.size #[.int .u8 3,.int .u8 2,.int .u8 1,.int .u8 3,.int .u8 0,.int .i64 20,.int .i64 0,.int .i64 0,.int .i64 0,.int .u64 0]):=below_setRow ((Below.refl w5.heap.size w5).alloc yL (.cells #[.int .u8 0,.int .u8 0,.int .u8 0,.int .u8 0,.int .u8 0,.int .i64 0,.int .i64 0,.int .i64 0,.int .i64 0,.int .u64 0] 87)) yL _;have P0:=yH (show Blk ((w5.alloc (.cells #[.int .u8 0,.int .u8 0,.int .u8 0,.int .u8 0,.int .u8 0,.int .i64 0,.int .i64 0,.int .i64 0,.int .i64 0,.int .u64 0] 87)).setRow w5.heap.size #[.int .u8 3,.int .u8 2,.int .u8 1,.int .u8 3,.int .u8 0,.int .i64 20,.int .i64 0,.int .i64 0,.int .i64 0,.int .u64 0]) w5.heap.size #[.int .u8 3,.int .u8 2,.int .u8 1,.int .u8 3,.int .u8 0,.int .i64 20,.int .i64 0,.int .i64 0,.int .i64 0,.int .u64 0] 87 from setRow_heap _ _ _ _ _ (0,0) (Blk.new w5 #[.int .u8 0,.int .u8 0,.int .u8 0,.int .u8 0,.int .u8 0,.int .i64 0,.int .i64 0,.int .i64 0,.int .i64 0,.int .u64 0] 87));have PN:Hid (w5.heap.size≠g):=yH (Nat.ne_of_gt (MP.o.lt I_8.o));have PZ:Hid (w.heap.size≤w5.heap.size):=yH B_7.o.size;generalize (w5.alloc (.cells #[.int .u8 0,.int .u8 0,.int .u8 0,.int .u8 0,.int .u8 0,.int .i64 0,.int .i64 0,.int .i64 0,.int .i64 0,.int .u64 0] 87)).setRow w5.heap.size #[.int .u8 3,.int .u8 2,.int .u8 1,.int .u8 3,.int .u8 0,.int .i64 20,.int .i64 0,.int .i64 0,.int .i64 0,.int .u64 0]=w6 at *;have K1:Hid (Keep (·=g) w5 w6):=yH (pAD ba);have B_9:=yT B_7 ba;have I_10:=yH (MP.o.below I_8.o ba);clear B_7 I_8;clear ba;have p0:=P0.o.cell 0;have p1:=P0.o.cell 1;have p2:=P0.o.cell 2;have p3:=P0.o.cell 3;have p4:=P0.o.cell 4;have p5:=P0.o.cell 5;have p6:=P0.o.cell 6;have p7:=P0.o.cell 7;have p8:=P0.o.cell 8;have p9:=P0.o.cell 9;simp at p0 p1 p2 p3 p4 p5 p6 p7 p8 p9;go_wp2_with fail;have ba:=(Below.refl w6.heap.size w6).alloc yL (.cells #[.int .u8 3,.int .u8 2,.int .u8 1,.int .u8 3,.int .u8 0,.int .i64 20,.int .i64 0,.int .i64 0,.int .i64 0,.int .u64 0,.int .u8 9,.int .u8 1,.int .u8 0,.int .u8 3,.int .u8 0,.int .i64 0,.int .i64 0,.int .i64 0,.int .i64 0,.int .u64 0] 87);have S10:=yH (Blk.new w6 #[.int .u8 3,.int .u8 2,.int .u8 1,.int .u8 3,.int .u8 0,.int .i64 20,.int .i64 0,.int .i64 0,.int .i64 0,.int .u64 0,.int .u8 9,.int .u8 1,.int .u8 0,.int .u8 3,.int .u8 0,.int .i64 0,.int .i64 0,.int .i64 0,.int .i64 0,.int .u64 0] 87);generalize w6.alloc (.cells #[.int .u8 3,.int .u8 2,.int .u8 1,.int .u8 3,.int .u8 0,.int .i64 20,.int .i64 0,.int .i64 0,.int .i64 0,.int .u64 0,.int .u8 9,.int .u8 1,.int .u8 0,.int .u8 3,.int .u8 0,.int .i64 0,.int .i64 0,.int .i64 0,.int .i64 0,.int .u64 0] 87)=w7 at *;have K2:Hid (Keep (·=g) w6 w7):=yH (pAD ba);have B_11:=yT B_9 ba;have I_12:=yH (MP.o.below I_10.o ba);have P_13:=yB P0 ba;clear B_9 I_10 P0;clear ba;refine(aPr _ _ _ _).mono ?_;rintro e w8 ⟨rfl,b⟩;have K3:Hid (Keep (·=g) w7 w8):=yH (pAD b);have B_14:=yT B_11 b;have I_15:=yH (MP.o.below I_12.o b);have P_16:=yB P_13 b;have S1_17:=yB S10 b;clear B_11 I_12 P_13 S10;clear b;have CA:=yH (MP.o.apply I_15.o I1.o ⟨_,2,2,[⟨3,2,1,3,0,20,0,0,0,0⟩,⟨9,1,0,3,0,0,0,0,0,0⟩]⟩ (aGj (xs:=[⟨3,2,1,3,0,20,0,0,0,0⟩,⟨9,1,0,3,0,0,0,0,0,0⟩]) S1_17.o rfl (by intro x hx;simp only[yI,yJ,or_false]at hx;rcases hx with rfl|rfl <;> exact aLm _ zX) zX) (fun s hs=>OK.o s (by simp only[yI,yJ,or_false]at hs;rcases hs with rfl|rfl <;> decide)));unfold aCt at CA;rw[(lv14_B I1.o)]at CA;go_wp2_with fail;refine CA.o.mono ?_;rintro e w9 ⟨v1,rfl,tv,ig,k⟩;have TN1:Hid (g<w8.heap.size):=yH (MP.o.lt I_15.o);have K4:Hid (Keep (·=g) w8 w9):=yH (k);have B_18:=yH (B_14.o.trans (k.below B_14.o.size (fun j hj e=>vH)));have P_19:=yH (P_16.o.keep k PN.o);clear B_14 I_15 P_16;have IGa1:=yH ig;have TVa1:=yH tv;clear ig tv k CA
 go_upto_region 5 with(refine aAa rfl 36 (.tmp 4) (.tmp 23) rfl w9.heap.size #[.int .i64 0,.int .i64 0,v1] rfl rfl 36 _ (Blk.new w9 #[.int .i64 0,.int .i64 0,.slice none 0 0] 36).out zW rfl (by obtain⟨_,_,rfl⟩:=TVa1.o.shape;simp[Value.oneCell']) ?_)
 have ba:Below w9.heap.size w9 ((w9.alloc (.cells #[.int .i64 0,.int .i64 0,.slice none 0 0] 36)).setRow w9.heap.size #[.int .i64 0,.int .i64 0,v1]):=below_setRow ((Below.refl w9.heap.size w9).alloc yL (.cells #[.int .i64 0,.int .i64 0,.slice none 0 0] 36)) yL _;have R10:=yH (show Blk ((w9.alloc (.cells #[.int .i64 0,.int .i64 0,.slice none 0 0] 36)).setRow w9.heap.size #[.int .i64 0,.int .i64 0,v1]) w9.heap.size #[.int .i64 0,.int .i64 0,v1] 36 from setRow_heap _ _ _ _ _ (0,0) (Blk.new w9 #[.int .i64 0,.int .i64 0,.slice none 0 0] 36));have R1N:Hid (w9.heap.size≠g):=yH (Nat.ne_of_gt (MP.o.lt IGa1.o));generalize (w9.alloc (.cells #[.int .i64 0,.int .i64 0,.slice none 0 0] 36)).setRow w9.heap.size #[.int .i64 0,.int .i64 0,v1]=w10 at *;have K5:Hid (Keep (·=g) w9 w10):=yH (pAD ba);have B_20:=yT B_18 ba;have P_21:=yB P_19 ba;have I_22:=yH (MP.o.below IGa1.o ba);clear B_18 P_19 IGa1;clear ba;clear p0 p1 p2 p3 p4 p5 p6 p7 p8 p9;have c_23:=K5.o;have c_24:=K4.o.trans c_23;have c_25:=K3.o.trans c_24;have c_26:=K2.o.trans c_25;have c_27:=K1.o.trans c_26;have c_28:=K0.o.trans c_27;have T0_29:=yH (TVa0.o.keep c_28 (fun b hb e=>Nat.ne_of_gt (yM TN0.o (TVa0.o.own hb).1) e));have R0_30:=yH (R00.o.keep c_27 R0N.o);have T1_31:=yH (TVa1.o.keep c_23 (fun b hb e=>Nat.ne_of_gt (yM TN1.o (TVa1.o.own hb).1) e));clear c_28 c_27 c_26 c_25 c_24 c_23;have p0:=P_21.o.cell 0;have p1:=P_21.o.cell 1;have p2:=P_21.o.cell 2;have p3:=P_21.o.cell 3;have p4:=P_21.o.cell 4;have p5:=P_21.o.cell 5;simp at p0 p1 p2 p3 p4 p5;have pf:=P_21.o.frozen 5
 go_upto_region 6 with fail
 have kq:Keep (·=w5.heap.size) w10 (w10.setCell ⟨w5.heap.size,5,none⟩ (.int .i64 5)):=Keep.setCell (S:=(·=w5.heap.size)) (Keep.refl _ _) (p:=⟨w5.heap.size,5,none⟩) (.inl rfl) _;have Ps5:Hid (Blk (w10.setCell ⟨w5.heap.size,5,none⟩ (.int .i64 5)) w5.heap.size #[.int .u8 3,.int .u8 2,.int .u8 1,.int .u8 3,.int .u8 0,.int .i64 5,.int .i64 0,.int .i64 0,.int .i64 0,.int .u64 0] 87):=yH (P_21.o.set 5 _);generalize w10.setCell ⟨w5.heap.size,5,none⟩ (.int .i64 5)=w11 at *;have B_32:=yH (B_20.o.trans (kq.below B_20.o.size (fun j hj e=>uF PZ.o)));have I_33:=yH (MP.o.rows I_22.o kq (fun b hb=>by subst hb;exact⟨_,_,P_21.o,.inr (.inr (.inr (.inl rfl)))⟩));have T0_34:=yH (T0_29.o.keep kq (aPq T0_29.o P_21.o zX));have R0_35:=yH (R0_30.o.keep kq (aAw R0_30.o P_21.o zX));have T1_36:=yH (T1_31.o.keep kq (aPq T1_31.o P_21.o zX));have R1_37:=yH (R10.o.keep kq (aAw R10.o P_21.o zX));clear B_20 P_21 I_22 T0_29 R0_30 T1_31 R10 p0 p1 p2 p3 p4 p5 kq pf;have p0:=Ps5.o.cell 0;have p1:=Ps5.o.cell 1;have p2:=Ps5.o.cell 2;have p3:=Ps5.o.cell 3;have p4:=Ps5.o.cell 4;have p5:=Ps5.o.cell 5;have p6:=Ps5.o.cell 6;have p7:=Ps5.o.cell 7;have p8:=Ps5.o.cell 8;have p9:=Ps5.o.cell 9;simp at p0 p1 p2 p3 p4 p5 p6 p7 p8 p9;have M0N2:Hid (w5.heap.size≠w11.heap.size):=yH (Nat.ne_of_lt Ps5.o.lt)
 go_upto_region 7 with(refine aAa rfl 87 (.tmp 5) (.tmp 25) rfl w11.heap.size #[.int .u8 3,.int .u8 2,.int .u8 1,.int .u8 3,.int .u8 0,.int .i64 5,.int .i64 0,.int .i64 0,.int .i64 0,.int .u64 0] rfl rfl 87 _ (Blk.new w11 #[.int .u8 0,.int .u8 0,.int .u8 0,.int .u8 0,.int .u8 0,.int .i64 0,.int .i64 0,.int .i64 0,.int .i64 0,.int .u64 0] 87).out zW rfl zK ?_)
 have ba:Below w11.heap.size w11 ((w11.alloc (.cells #[.int .u8 0,.int .u8 0,.int .u8 0,.int .u8 0,.int .u8 0,.int .i64 0,.int .i64 0,.int .i64 0,.int .i64 0,.int .u64 0] 87)).setRow w11.heap.size #[.int .u8 3,.int .u8 2,.int .u8 1,.int .u8 3,.int .u8 0,.int .i64 5,.int .i64 0,.int .i64 0,.int .i64 0,.int .u64 0]):=below_setRow ((Below.refl w11.heap.size w11).alloc yL (.cells #[.int .u8 0,.int .u8 0,.int .u8 0,.int .u8 0,.int .u8 0,.int .i64 0,.int .i64 0,.int .i64 0,.int .i64 0,.int .u64 0] 87)) yL _;have M0:=yH (show Blk ((w11.alloc (.cells #[.int .u8 0,.int .u8 0,.int .u8 0,.int .u8 0,.int .u8 0,.int .i64 0,.int .i64 0,.int .i64 0,.int .i64 0,.int .u64 0] 87)).setRow w11.heap.size #[.int .u8 3,.int .u8 2,.int .u8 1,.int .u8 3,.int .u8 0,.int .i64 5,.int .i64 0,.int .i64 0,.int .i64 0,.int .u64 0]) w11.heap.size #[.int .u8 3,.int .u8 2,.int .u8 1,.int .u8 3,.int .u8 0,.int .i64 5,.int .i64 0,.int .i64 0,.int .i64 0,.int .u64 0] 87 from setRow_heap _ _ _ _ _ (0,0) (Blk.new w11 #[.int .u8 0,.int .u8 0,.int .u8 0,.int .u8 0,.int .u8 0,.int .i64 0,.int .i64 0,.int .i64 0,.int .i64 0,.int .u64 0] 87));have MZ:Hid (w.heap.size≤w11.heap.size):=yH B_32.o.size;generalize (w11.alloc (.cells #[.int .u8 0,.int .u8 0,.int .u8 0,.int .u8 0,.int .u8 0,.int .i64 0,.int .i64 0,.int .i64 0,.int .i64 0,.int .u64 0] 87)).setRow w11.heap.size #[.int .u8 3,.int .u8 2,.int .u8 1,.int .u8 3,.int .u8 0,.int .i64 5,.int .i64 0,.int .i64 0,.int .i64 0,.int .u64 0]=w12 at *;have K6:Hid (Keep (·=g) w11 w12):=yH (pAD ba);have B_38:=yT B_32 ba;have P_39:=yB Ps5 ba;have I_40:=yH (MP.o.below I_33.o ba);clear B_32 Ps5 I_33;clear ba;clear p0 p1 p2 p3 p4 p5 p6 p7 p8 p9;have c_41:=K6.o;have T0_42:=yH (T0_34.o.keep c_41 (fun b hb e=>Nat.ne_of_gt (yM TN0.o (T0_34.o.own hb).1) e));have R0_43:=yH (R0_35.o.keep c_41 R0N.o);have T1_44:=yH (T1_36.o.keep c_41 (fun b hb e=>Nat.ne_of_gt (yM TN1.o (T1_36.o.own hb).1) e));have R1_45:=yH (R1_37.o.keep c_41 R1N.o);clear c_41;have p0:=M0.o.cell 0;have p1:=M0.o.cell 1;have p2:=M0.o.cell 2;have p3:=M0.o.cell 3;have p4:=M0.o.cell 4;have p5:=M0.o.cell 5;simp at p0 p1 p2 p3 p4 p5;have pf:=M0.o.frozen 5
 go_upto_region 8 with fail
 have kq:Keep (·=w11.heap.size) w12 (w12.setCell ⟨w11.heap.size,5,none⟩ (.int .i64 26)):=Keep.setCell (S:=(·=w11.heap.size)) (Keep.refl _ _) (p:=⟨w11.heap.size,5,none⟩) (.inl rfl) _;have Ms26:Hid (Blk (w12.setCell ⟨w11.heap.size,5,none⟩ (.int .i64 26)) w11.heap.size #[.int .u8 3,.int .u8 2,.int .u8 1,.int .u8 3,.int .u8 0,.int .i64 26,.int .i64 0,.int .i64 0,.int .i64 0,.int .u64 0] 87):=yH (M0.o.set 5 _);generalize w12.setCell ⟨w11.heap.size,5,none⟩ (.int .i64 26)=w13 at *;have B_46:=yH (B_38.o.trans (kq.below B_38.o.size (fun j hj e=>uF MZ.o)));have P_47:=yH (P_39.o.keep kq (fun e=>uF M0N2.o));have I_48:=yH (MP.o.rows I_40.o kq (fun b hb=>by subst hb;exact⟨_,_,M0.o,.inr (.inr (.inr (.inl rfl)))⟩));have T0_49:=yH (T0_42.o.keep kq (aPq T0_42.o M0.o zX));have R0_50:=yH (R0_43.o.keep kq (aAw R0_43.o M0.o zX));have T1_51:=yH (T1_44.o.keep kq (aPq T1_44.o M0.o zX));have R1_52:=yH (R1_45.o.keep kq (aAw R1_45.o M0.o zX));clear B_38 P_39 I_40 M0 T0_42 R0_43 T1_44 R1_45 p0 p1 p2 p3 p4 p5 kq pf;have p0:=P_47.o.cell 0;have p1:=P_47.o.cell 1;have p2:=P_47.o.cell 2;have p3:=P_47.o.cell 3;have p4:=P_47.o.cell 4;have p5:=P_47.o.cell 5;have p6:=P_47.o.cell 6;have p7:=P_47.o.cell 7;have p8:=P_47.o.cell 8;have p9:=P_47.o.cell 9;simp at p0 p1 p2 p3 p4 p5 p6 p7 p8 p9;have q0:=Ms26.o.cell 0;have q1:=Ms26.o.cell 1;have q2:=Ms26.o.cell 2;have q3:=Ms26.o.cell 3;have q4:=Ms26.o.cell 4;have q5:=Ms26.o.cell 5;have q6:=Ms26.o.cell 6;have q7:=Ms26.o.cell 7;have q8:=Ms26.o.cell 8;have q9:=Ms26.o.cell 9;simp at q0 q1 q2 q3 q4 q5 q6 q7 q8 q9;go_wp2_with fail;have ba:=(Below.refl w13.heap.size w13).alloc yL (.cells #[.int .u8 3,.int .u8 2,.int .u8 1,.int .u8 3,.int .u8 0,.int .i64 5,.int .i64 0,.int .i64 0,.int .i64 0,.int .u64 0,.int .u8 3,.int .u8 2,.int .u8 1,.int .u8 3,.int .u8 0,.int .i64 26,.int .i64 0,.int .i64 0,.int .i64 0,.int .u64 0] 87);have S20:=yH (Blk.new w13 #[.int .u8 3,.int .u8 2,.int .u8 1,.int .u8 3,.int .u8 0,.int .i64 5,.int .i64 0,.int .i64 0,.int .i64 0,.int .u64 0,.int .u8 3,.int .u8 2,.int .u8 1,.int .u8 3,.int .u8 0,.int .i64 26,.int .i64 0,.int .i64 0,.int .i64 0,.int .u64 0] 87);generalize w13.alloc (.cells #[.int .u8 3,.int .u8 2,.int .u8 1,.int .u8 3,.int .u8 0,.int .i64 5,.int .i64 0,.int .i64 0,.int .i64 0,.int .u64 0,.int .u8 3,.int .u8 2,.int .u8 1,.int .u8 3,.int .u8 0,.int .i64 26,.int .i64 0,.int .i64 0,.int .i64 0,.int .u64 0] 87)=w14 at *;have K7:Hid (Keep (·=g) w13 w14):=yH (pAD ba);have B_53:=yT B_46 ba;have I_55:=yH (MP.o.below I_48.o ba);clear B_46 P_47 I_48 Ms26;clear ba;refine(aPr _ _ _ _).mono ?_;rintro e w15 ⟨rfl,b⟩;have K8:Hid (Keep (·=g) w14 w15):=yH (pAD b);have B_57:=yT B_53 b;have I_59:=yH (MP.o.below I_55.o b);have S2_61:=yB S20 b;clear B_53 I_55 S20;clear b;have CA:=yH (MP.o.apply I_59.o I2.o ⟨_,2,2,[⟨3,2,1,3,0,5,0,0,0,0⟩,⟨3,2,1,3,0,26,0,0,0,0⟩]⟩ (aGj (xs:=[⟨3,2,1,3,0,5,0,0,0,0⟩,⟨3,2,1,3,0,26,0,0,0,0⟩]) S2_61.o rfl (by intro x hx;simp only[yI,yJ,or_false]at hx;rcases hx with rfl|rfl <;> exact aLm _ zX) zX) (fun s hs=>OK.o s (by simp only[yI,yJ,or_false]at hs;rcases hs with rfl|rfl <;> decide)));unfold aCt at CA;rw[(lv14_C I2.o I3.o)]at CA;go_wp2_with fail;refine CA.o.mono ?_;rintro e w16 ⟨v2,rfl,tv,ig,k⟩;have TN2:Hid (g<w15.heap.size):=yH (MP.o.lt I_59.o);have K9:Hid (Keep (·=g) w15 w16):=yH (k);have B_62:=yH (B_57.o.trans (k.below B_57.o.size (fun j hj e=>vH)));clear B_57 I_59;have IGa2:=yH ig;have TVa2:=yH tv;clear ig tv k CA
 go_upto_region 9 with(refine aAa rfl 36 (.tmp 6) (.tmp 32) rfl w16.heap.size #[.int .i64 11,.int .i64 1,v2] rfl rfl 36 _ (Blk.new w16 #[.int .i64 0,.int .i64 0,.slice none 0 0] 36).out zW rfl (by obtain⟨_,_,rfl⟩:=TVa2.o.shape;simp[Value.oneCell']) ?_)
 have ba:Below w16.heap.size w16 ((w16.alloc (.cells #[.int .i64 0,.int .i64 0,.slice none 0 0] 36)).setRow w16.heap.size #[.int .i64 11,.int .i64 1,v2]):=below_setRow ((Below.refl w16.heap.size w16).alloc yL (.cells #[.int .i64 0,.int .i64 0,.slice none 0 0] 36)) yL _;have R20:=yH (show Blk ((w16.alloc (.cells #[.int .i64 0,.int .i64 0,.slice none 0 0] 36)).setRow w16.heap.size #[.int .i64 11,.int .i64 1,v2]) w16.heap.size #[.int .i64 11,.int .i64 1,v2] 36 from setRow_heap _ _ _ _ _ (0,0) (Blk.new w16 #[.int .i64 0,.int .i64 0,.slice none 0 0] 36));have R2N:Hid (w16.heap.size≠g):=yH (Nat.ne_of_gt (MP.o.lt IGa2.o));generalize (w16.alloc (.cells #[.int .i64 0,.int .i64 0,.slice none 0 0] 36)).setRow w16.heap.size #[.int .i64 11,.int .i64 1,v2]=w17 at *;have K10:Hid (Keep (·=g) w16 w17):=yH (pAD ba);have B_65:=yT B_62 ba;have I_68:=yH (MP.o.below IGa2.o ba);clear B_62 IGa2;clear ba;clear p0 p1 p2 p3 p4 p5 p6 p7 p8 p9 q0 q1 q2 q3 q4 q5 q6 q7 q8 q9;go_wp2_with fail;have ba:=(Below.refl w17.heap.size w17).alloc yL (.cells #[.int .u8 8,.int .u8 1,.int .u8 2,.int .u8 3,.int .u8 0,.int .i64 0,.int .i64 0,.int .i64 0,.int .i64 0,.int .u64 0] 87);have S30:=yH (Blk.new w17 #[.int .u8 8,.int .u8 1,.int .u8 2,.int .u8 3,.int .u8 0,.int .i64 0,.int .i64 0,.int .i64 0,.int .i64 0,.int .u64 0] 87);generalize w17.alloc (.cells #[.int .u8 8,.int .u8 1,.int .u8 2,.int .u8 3,.int .u8 0,.int .i64 0,.int .i64 0,.int .i64 0,.int .i64 0,.int .u64 0] 87)=w18 at *;have K11:Hid (Keep (·=g) w17 w18):=yH (pAD ba);have B_69:=yT B_65 ba;have I_70:=yH (MP.o.below I_68.o ba);clear B_65 I_68;clear ba;refine(aPr _ _ _ _).mono ?_;rintro e w19 ⟨rfl,b⟩;have K12:Hid (Keep (·=g) w18 w19):=yH (pAD b);have B_71:=yT B_69 b;have I_72:=yH (MP.o.below I_70.o b);have S3_73:=yB S30 b;clear B_69 I_70 S30;clear b;have CA:=yH (MP.o.apply I_72.o I2.o ⟨_,1,1,[⟨8,1,2,3,0,0,0,0,0,0⟩]⟩ (aGj (xs:=[⟨8,1,2,3,0,0,0,0,0,0⟩]) S3_73.o rfl (by intro x hx;simp only[yI,yJ,or_false]at hx;rcases hx with rfl <;> exact aLm _ zX) zX) (fun s hs=>OK.o s (by simp only[yI,yJ,or_false]at hs;rcases hs with rfl <;> decide)));unfold aCt at CA;rw[lv14_D]at CA;go_wp2_with fail;refine CA.o.mono ?_;rintro e w20 ⟨v3,rfl,tv,ig,k⟩;have TN3:Hid (g<w19.heap.size):=yH (MP.o.lt I_72.o);have K13:Hid (Keep (·=g) w19 w20):=yH (k);have B_74:=yH (B_71.o.trans (k.below B_71.o.size (fun j hj e=>vH)));clear B_71 I_72;have IGa3:=yH ig;have TVa3:=yH tv;clear ig tv k CA
 go_upto_region 10 with(refine aAa rfl 36 (.tmp 7) (.tmp 37) rfl w20.heap.size #[.int .i64 0,.int .i64 0,v3] rfl rfl 36 _ (Blk.new w20 #[.int .i64 0,.int .i64 0,.slice none 0 0] 36).out zW rfl (by obtain⟨_,_,rfl⟩:=TVa3.o.shape;simp[Value.oneCell']) ?_)
 have ba:Below w20.heap.size w20 ((w20.alloc (.cells #[.int .i64 0,.int .i64 0,.slice none 0 0] 36)).setRow w20.heap.size #[.int .i64 0,.int .i64 0,v3]):=below_setRow ((Below.refl w20.heap.size w20).alloc yL (.cells #[.int .i64 0,.int .i64 0,.slice none 0 0] 36)) yL _;have R30:=yH (show Blk ((w20.alloc (.cells #[.int .i64 0,.int .i64 0,.slice none 0 0] 36)).setRow w20.heap.size #[.int .i64 0,.int .i64 0,v3]) w20.heap.size #[.int .i64 0,.int .i64 0,v3] 36 from setRow_heap _ _ _ _ _ (0,0) (Blk.new w20 #[.int .i64 0,.int .i64 0,.slice none 0 0] 36));have R3N:Hid (w20.heap.size≠g):=yH (Nat.ne_of_gt (MP.o.lt IGa3.o));generalize (w20.alloc (.cells #[.int .i64 0,.int .i64 0,.slice none 0 0] 36)).setRow w20.heap.size #[.int .i64 0,.int .i64 0,v3]=w21 at *;have K14:Hid (Keep (·=g) w20 w21):=yH (pAD ba);have B_75:=yT B_74 ba;have I_76:=yH (MP.o.below IGa3.o ba);clear B_74 IGa3;clear ba;have CA:=yH (MP.o.apply I_76.o I2.o ⟨none,0,0,[]⟩ ⟨fun _=>rfl,rfl,(fun x hx=>by cases hx),Nat.le_refl _,zX,fun h=>absurd h zX⟩ (fun s hs=>by cases hs));unfold aCt at CA;rw[lv14_E]at CA;go_wp2_with fail;refine CA.o.mono ?_;rintro e w22 ⟨v4,rfl,tv,ig,k⟩;have TN4:Hid (g<w21.heap.size):=yH (MP.o.lt I_76.o);have K15:Hid (Keep (·=g) w21 w22):=yH (k);have B_77:=yH (B_75.o.trans (k.below B_75.o.size (fun j hj e=>vH)));clear B_75 I_76;have TVa4:=yH tv;clear ig tv k CA
 go_upto_region 11 with(refine aAa rfl 36 (.tmp 8) (.tmp 40) rfl w22.heap.size #[.int .i64 3,.int .i64 0,v4] rfl rfl 36 _ (Blk.new w22 #[.int .i64 0,.int .i64 0,.slice none 0 0] 36).out zW rfl (by obtain⟨_,_,rfl⟩:=TVa4.o.shape;simp[Value.oneCell']) ?_)
 have ba:Below w22.heap.size w22 ((w22.alloc (.cells #[.int .i64 0,.int .i64 0,.slice none 0 0] 36)).setRow w22.heap.size #[.int .i64 3,.int .i64 0,v4]):=below_setRow ((Below.refl w22.heap.size w22).alloc yL (.cells #[.int .i64 0,.int .i64 0,.slice none 0 0] 36)) yL _;have R40:=yH (show Blk ((w22.alloc (.cells #[.int .i64 0,.int .i64 0,.slice none 0 0] 36)).setRow w22.heap.size #[.int .i64 3,.int .i64 0,v4]) w22.heap.size #[.int .i64 3,.int .i64 0,v4] 36 from setRow_heap _ _ _ _ _ (0,0) (Blk.new w22 #[.int .i64 0,.int .i64 0,.slice none 0 0] 36));generalize (w22.alloc (.cells #[.int .i64 0,.int .i64 0,.slice none 0 0] 36)).setRow w22.heap.size #[.int .i64 3,.int .i64 0,v4]=w23 at *;have K16:Hid (Keep (·=g) w22 w23):=yH (pAD ba);have B_78:=yT B_77 ba;clear B_77;clear ba;have c_80:=K16.o;have c_81:=K15.o.trans c_80;have c_82:=K14.o.trans c_81;have c_83:=K13.o.trans c_82;have c_84:=K12.o.trans c_83;have c_85:=K11.o.trans c_84;have c_86:=K10.o.trans c_85;have c_87:=K9.o.trans c_86;have c_88:=K8.o.trans c_87;have c_89:=K7.o.trans c_88;have T0_90:=yH (T0_49.o.keep c_89 (fun b hb e=>Nat.ne_of_gt (yM TN0.o (T0_49.o.own hb).1) e));have R0_91:=yH (R0_50.o.keep c_89 R0N.o);have T1_92:=yH (T1_51.o.keep c_89 (fun b hb e=>Nat.ne_of_gt (yM TN1.o (T1_51.o.own hb).1) e));have R1_93:=yH (R1_52.o.keep c_89 R1N.o);have T2_94:=yH (TVa2.o.keep c_86 (fun b hb e=>Nat.ne_of_gt (yM TN2.o (TVa2.o.own hb).1) e));have R2_95:=yH (R20.o.keep c_85 R2N.o);have T3_96:=yH (TVa3.o.keep c_82 (fun b hb e=>Nat.ne_of_gt (yM TN3.o (TVa3.o.own hb).1) e));have R3_97:=yH (R30.o.keep c_81 R3N.o);have T4_98:=yH (TVa4.o.keep c_80 (fun b hb e=>Nat.ne_of_gt (yM TN4.o (TVa4.o.own hb).1) e));clear c_89 c_88 c_87 c_86 c_85 c_84 c_83 c_82 c_81 c_80;have EE:=yH (Below.refl w23.heap.size w23);have rk:=R0_91.o.below EE.o R0_91.o.lt;have r0:=rk.cell 0;have r1:=rk.cell 1;have r2:=rk.cell 2;simp at r0 r1 r2;clear rk;go_wp2_with fail;have ba:=(Below.refl w23.heap.size w23).alloc yL (.cells #[.int .i64 0,.int .i64 0,.int .i64 0,.int .i64 0,.int .i64 0,.int .i64 0] 93);have Q0:=yH (Blk.new w23 #[.int .i64 0,.int .i64 0,.int .i64 0,.int .i64 0,.int .i64 0,.int .i64 0] 93);generalize w23.alloc (.cells #[.int .i64 0,.int .i64 0,.int .i64 0,.int .i64 0,.int .i64 0,.int .i64 0] 93)=w24 at *;have B_99:=yT B_78 ba;have E_100:=yT EE ba;clear B_78 EE;clear ba;have CS:=yH (aCx (e1:=0) (a1:=0) (e2:=0) (a2:=0) ((T0_90.o.below E_100.o).reads zX) (aGk (xs:=[⟨0,0⟩,⟨0,0⟩,⟨0,0⟩]) Q0.o rfl zX));refine CS.o.mono ?_;rintro e w25 ⟨rfl,b⟩;rw[decide_eq_true zV];have B_101:=yT B_99 b;have E_102:=yT E_100 b;clear B_99 E_100;clear b CS r0 r1 r2;have rk:=R1_93.o.below E_102.o R1_93.o.lt;have r0:=rk.cell 0;have r1:=rk.cell 1;have r2:=rk.cell 2;simp at r0 r1 r2;clear rk;go_wp2_with fail;have ba:=(Below.refl w25.heap.size w25).alloc yL (.cells #[.int .i64 1,.int .i64 0,.int .i64 20,.int .i64 0] 93);have Q0:=yH (Blk.new w25 #[.int .i64 1,.int .i64 0,.int .i64 20,.int .i64 0] 93);generalize w25.alloc (.cells #[.int .i64 1,.int .i64 0,.int .i64 20,.int .i64 0] 93)=w26 at *;have B_103:=yT B_101 ba;have E_104:=yT E_102 ba;clear B_101 E_102;clear ba;have CS:=yH (aCx (e1:=0) (a1:=0) (e2:=0) (a2:=0) ((T1_92.o.below E_104.o).reads zX) (aGk (xs:=[⟨1,0⟩,⟨20,0⟩]) Q0.o rfl zX));refine CS.o.mono ?_;rintro e w27 ⟨rfl,b⟩;rw[decide_eq_true zV];have B_105:=yT B_103 b;have E_106:=yT E_104 b;clear B_103 E_104;clear b CS r0 r1 r2;have rk:=R2_95.o.below E_106.o R2_95.o.lt;have r0:=rk.cell 0;have r1:=rk.cell 1;have r2:=rk.cell 2;simp at r0 r1 r2;clear rk;have CS:=yH (aCx (e1:=11) (a1:=1) (e2:=11) (a2:=1) (lb:=[]) ((T2_94.o.below E_106.o).reads zX) (aRf _ 2));go_wp2_with fail;refine CS.o.mono ?_;rintro e w28 ⟨rfl,b⟩;rw[decide_eq_true zV];have B_107:=yT B_105 b;have E_108:=yT E_106 b;clear B_105 E_106;clear b CS r0 r1 r2;have rk:=R3_97.o.below E_108.o R3_97.o.lt;have r0:=rk.cell 0;have r1:=rk.cell 1;have r2:=rk.cell 2;simp at r0 r1 r2;clear rk;go_wp2_with fail;have ba:=(Below.refl w28.heap.size w28).alloc yL (.cells #[.int .i64 20,.int .i64 50] 93);have Q0:=yH (Blk.new w28 #[.int .i64 20,.int .i64 50] 93);generalize w28.alloc (.cells #[.int .i64 20,.int .i64 50] 93)=w29 at *;have B_109:=yT B_107 ba;have E_110:=yT E_108 ba;clear B_107 E_108;clear ba;have CS:=yH (aCx (e1:=0) (a1:=0) (e2:=0) (a2:=0) ((T3_96.o.below E_110.o).reads zX) (aGk (xs:=[⟨20,50⟩]) Q0.o rfl zX));refine CS.o.mono ?_;rintro e w30 ⟨rfl,b⟩;rw[decide_eq_true zV];have B_111:=yT B_109 b;have E_112:=yT E_110 b;clear B_109 E_110;clear b CS r0 r1 r2;have rk:=R40.o.below E_112.o R40.o.lt;have r0:=rk.cell 0;have r1:=rk.cell 1;have r2:=rk.cell 2;simp at r0 r1 r2;clear rk;have CS:=yH (aCx (e1:=3) (a1:=0) (e2:=3) (a2:=0) (lb:=[]) ((T4_98.o.below E_112.o).reads zX) (aRf _ 2));go_wp2_with fail;refine CS.o.mono ?_;rintro e w31 ⟨rfl,b⟩;rw[decide_eq_true zV];have B_113:=yT B_111 b;clear B_111 E_112;clear b CS r0 r1 r2;go_wp2_with fail;go_ret;exact⟨rfl,B_113.o⟩
theorem machAll:aHx (fun _=>True) (MIs (fun _=>True)):=aNh (@aNe) (fun s _=>kd_by aJa pnet_any (@hmay_any mostProg) (@hdo_any aJa mostProg) (@aNe) s)
theorem machFew:aHx (fun s=>s.kd=1∨s.kd=2∨s.kd=3∨s.kd=8∨s.kd=9) (MIs (fun _=>True)):=aNh (@aNe) (fun s h=>kd_few aJa s h)
theorem aUh:aTr:=aUg (fun _ h=>h) machFew
end Go.Proofs.YtngnfdnfpiiclaaGreat
