/- Pieces of one proof. -/
import Derived.Test.YtngnfdnfpiiclaaGreatO12
import Derived.Test.YtngnfdnfpiiclaaGreatO13
import Derived.ProofKit
set_option linter.all false
set_option maxHeartbeats 64000000
set_option maxRecDepth 100000
namespace Go.Proofs.YtngnfdnfpiiclaaGreat
open Go.RowKit
theorem rof_any{w:World}{va vb:Value}{zs:List Int}{ls:List Ln}(hp:aAs w va 1 zs.length (zs.map (.int .u8)))(hl:aAs w vb 5 ls.length (aAd ls))(hf:∀x∈ls,x.Fits):
  Calls Tryz.prog 68 #[va,vb] w (ROfPost w zs ls):=by
 obtain⟨po,pcap,rfl,hpl,hP⟩:=RReads.atP hp;obtain⟨lo,lcap,rfl,hll,hL⟩:=RReads.atL hl;have HPR:=yH hP;have HLR:=yH hL;have HF:=yH hf;have K:=yH (Blk.new w #[.slice none 0 0,.slice none 0 0] 120);have B0:=yH ((Below.refl w.heap.size w).alloc yL (.cells #[.slice none 0 0,.slice none 0 0] 120));clear hp hl hP hL hf;go_enter Tryz.func68,Tryz.ntmps68;go_wp2_with fail;generalize hG:w.heap.size=G at K ⊢;have GG:=yH hG;clear hG
 go_loopw [7] (ROfAt1 w G zs) (fun i _=>zs.length - (intOf i).toNat)
 case atStart=>exact⟨0,.slice none 0 0,.slice none 0 0,Nat.zero_le _,rfl,okP.nil,⟨K.o,by rw[GG.o];exact Nat.le_refl _,World.ownsRow_nil _ _ _ _,World.ownsRow_nil _ _ _ _⟩,B0.o⟩
 clear K B0;obtain⟨k,vp,vl,hk,rfl,hok,hL,hB⟩:=hrel;have HO:=yH hok;have H1:=yH hL;have B1:=yH hB;clear hok hL hB;have HGs:Hid (w.heap.size≤G):=yH (by rw[GG.o];exact Nat.le_refl _)
 by_cases hkl:k<zs.length
 ·obtain⟨bp,op,rfl,hbp,hcp⟩:=HPR.o k hkl;have HBp:Hid (bp<wr.heap.size):=yH (yM hbp B1.o.size);have HC:=yH (fun j (hj:j<zs.length)=>(B1.o.cell (p:=⟨bp,op+j,none⟩) hbp).trans (hcp j hj));clear hcp hbp;have NX:=yH (fun hm hs=>okP.next hkl HO.o hm hs);have BD:=yH (fun h=>okP.bad hkl h);have ST:=yH (fun hm hs=>open_step hkl HO.o hm hs);have hkm:k - 1<zs.length:=by omega
  generalize hi:((k:Nat):Int)=i;have i1:i<(zs.length:Int):=by omega
  have i4:0≤i:=by omega
  have i2:i.toNat=k:=by omega
  have HIi:=yH hi;have HP:Hid (wr.cell? ⟨bp,op+i.toNat,none⟩=some (.int .u8 zs[k])):=yH (by rw[i2];exact HC.o k hkl)
  have CO:Hid (∀w',Below wr.heap.size wr w'→Calls Tryz.prog 81 #[.pointer (some ⟨G,0,none⟩),.int .u8 zs[k]] w' fun e w''=>e=.returned (.int .i64 (aCa (zs.take i.toNat) zs[k]))∧OpenT wr w.heap.size G (aCb (zs.take i.toNat) zs[k]) vl w''):=yH fun w' kb=>by
   rw[i2];refine(ropen_any (H1.o.below kb) zs[k]).mono ?_;rintro e w'' ⟨h1,vp',h2,h3⟩;exact⟨h1,⟨vp',h2⟩,(pAD kb).trans h3⟩
  clear hi
  by_cases hk0:0<k
  ·have i0:0<i:=by omega
   have i3:(i.toNat - 1)=k - 1:=by omega
   have HQ:Hid (wr.cell? ⟨bp,op+(i.toNat - 1),none⟩=some (.int .u8 (zs[k - 1]'(by omega)))):=yH (by rw[i3];exact HC.o (k - 1) (by omega));have s0:decide (0<i)=true:=by rw[decide_eq_true_eq];omega
   by_cases hle:zs[k]≤zs[k - 1]'hkm
   ·have HB:=yH (BD.o (.inr ⟨hk0,hle⟩));clear NX BD ST CO HC i2 i3;generalize zs[k]=p at *;generalize zs[k - 1]'hkm=q at *;clear hkl hk hkm;have s1:decide (p≤q)=true:=by simp;omega
    go_wp2_with fail;refine rof_pt_bad HBp HP i4 i1 hpl s0 HQ i0 s1 ?_;intro w2 b2;have B2:=yT B1 b2;clear b2;go_wp2_with fail;refine bodyPost_ret (v:=.tuple #[.pointer none,.int .i64 1]) (by simp[results,Tryz.results68,go_sem]) rfl ?_;exact⟨B2.o,.inr (.inr ⟨rfl,.inl HB.o⟩)⟩
   have hs:∀hk0:0<k,zs[k - 1]'(by omega)<zs[k]:=fun _=>by omega
   by_cases hm:mayP zs[k]=false
   ·have HB:=yH (BD.o (.inl hm));rw[open_no hm]at CO;clear NX BD ST HC i2 i3 hs hm;generalize zs[k]=p at *;generalize zs[k - 1]'hkm=q at *;clear hkl hk hkm;have s1:decide (p≤q)=false:=by simp;omega
    go_wp2_with fail;refine rof_pt_no HBp HP i4 i1 hpl s0 HQ i0 s1 CO ?_;rintro w2 ⟨⟨vp2,hr2⟩,b2⟩;have B2:=yH (B1.o.trans (b2.below B1.o.size (fun q hq e=>by have:=HGs.o;omega)));have H2:=yH hr2;clear b2 hr2;go_wp2_with fail;refine bodyPost_ret (v:=.tuple #[.pointer none,.int .i64 1]) (by simp[results,Tryz.results68,go_sem]) rfl ?_;exact⟨B2.o,.inr (.inr ⟨rfl,.inl HB.o⟩)⟩
   have hm:mayP zs[k]=true:=by simpa using hm
   have HN:Hid (okP (zs.take (k+1))∧aCb (zs.take i.toNat) zs[k]=zs.take (k+1)):=yH ⟨NX.o hm hs,by rw[i2];exact(ST.o hm hs).2⟩;rw[show aCa (zs.take i.toNat) zs[k]=0 by rw[i2];exact(ST.o hm hs).1]at CO;have hk1:k+1≤zs.length:=hkl;clear NX BD ST HC i2 i3 hs hm;generalize zs[k]=p at *;generalize zs[k - 1]'hkm=q at *;clear hkl hk hkm;have s1:decide (p≤q)=false:=by simp;omega
   go_wp2_with fail;refine rof_pt_ok HBp HP i4 i1 hpl s0 HQ i0 s1 CO ?_;rintro w2 ⟨⟨vp2,hr2⟩,b2⟩;have B2:=yH (B1.o.trans (b2.below B1.o.size (fun q hq e=>by have:=HGs.o;omega)));have H2:=yH hr2;clear b2 hr2;go_wp2_with fail;go_roundw
   case rel=>exact⟨k+1,vp2,vl,by omega,by have:=HIi.o;first|go_num|(congr 1;omega),HN.o.1,by rw[←HN.o.2];exact H2.o,B2.o⟩
   case measure=>have:=HIi.o;simp[intOf];omega
  have s0:decide (0<i)=false:=by simp;omega
  have hs:∀hk0:0<k,zs[k - 1]'(by omega)<zs[k]:=fun h=>absurd h hk0
  by_cases hm:mayP zs[k]=false
  ·have HB:=yH (BD.o (.inl hm));rw[open_no hm]at CO;clear NX BD ST HC i2 hs hm;generalize zs[k]=p at *;clear hkl hk hkm;go_wp2_with fail;refine rof_pf_no (q:=0) HBp HP i4 i1 hpl s0 CO ?_;rintro w2 ⟨⟨vp2,hr2⟩,b2⟩;have B2:=yH (B1.o.trans (b2.below B1.o.size (fun q hq e=>by have:=HGs.o;omega)));have H2:=yH hr2;clear b2 hr2;go_wp2_with fail;refine bodyPost_ret (v:=.tuple #[.pointer none,.int .i64 1]) (by simp[results,Tryz.results68,go_sem]) rfl ?_;exact⟨B2.o,.inr (.inr ⟨rfl,.inl HB.o⟩)⟩
  have hm:mayP zs[k]=true:=by simpa using hm
  have HN:Hid (okP (zs.take (k+1))∧aCb (zs.take i.toNat) zs[k]=zs.take (k+1)):=yH ⟨NX.o hm hs,by rw[i2];exact(ST.o hm hs).2⟩;rw[show aCa (zs.take i.toNat) zs[k]=0 by rw[i2];exact(ST.o hm hs).1]at CO;have hk1:k+1≤zs.length:=hkl;clear NX BD ST HC i2 hs hm;generalize zs[k]=p at *;clear hkl hk hkm;go_wp2_with fail;refine rof_pf_ok (q:=0) HBp HP i4 i1 hpl s0 CO ?_;rintro w2 ⟨⟨vp2,hr2⟩,b2⟩;have B2:=yH (B1.o.trans (b2.below B1.o.size (fun q hq e=>by have:=HGs.o;omega)));have H2:=yH hr2;clear b2 hr2;go_wp2_with fail;go_roundw
  case rel=>exact⟨k+1,vp2,vl,by omega,by have:=HIi.o;first|go_num|(congr 1;omega),HN.o.1,by rw[←HN.o.2];exact H2.o,B2.o⟩
  case measure=>have:=HIi.o;simp[intOf];omega
 rw[List.take_of_length_le (by omega)]at HO H1;clear HPR;have HP:=HO;clear HO
 by_cases h64:64<ls.length
 ·go_wp2_with fail;refine bodyPost_ret (v:=.tuple #[.pointer none,.int .i64 9]) (by simp[results,Tryz.results68,go_sem]) rfl ?_;exact⟨B1.o,.inr (.inl ⟨rfl,HP.o,h64⟩)⟩
 have h64:ls.length≤64:=by omega
 go_wp2_with fail
 go_loopw [8] (ROfAt2 w G zs ls) (fun i _=>ls.length - (intOf i).toNat)
 case atStart=>exact⟨0,vp,vl,Nat.zero_le _,rfl,okL.nil _,H1.o,B1.o⟩
 clear H1 B1;clear hk vp vl;obtain⟨k,vp,vl,hk,rfl,hok,hL,hB⟩:=hrel;have HO:=yH hok;have H1:=yH hL;have B1:=yH hB;clear hok hL hB
 by_cases hkl:k<ls.length
 ·obtain⟨bl,ol,rfl,hbl,hcl⟩:=HLR.o k hkl;have hbl1:bl<wr.heap.size:=yM hbl B1.o.size;have HC:=yH (fun j (hj:j<ls.length) i (hi:i<5)=>(B1.o.cell (p:=⟨bl,ol+j*5+i,none⟩) hbl).trans (hcl j hj i hi));clear hcl hbl;have hkm:k - 1<ls.length:=by omega
  have FX:=yH (HF.o ls[k] (List.getElem_mem _));have FY:=yH (HF.o (ls[k - 1]'hkm) (List.getElem_mem _));have HGd:Hid ((∀y∈ls.take k,y.Good)∧(ls.take k).length≤64):=yH ⟨fun y hy=>(HO.o.2 y hy).good,by rw[List.length_take];omega⟩;generalize hi:((k:Nat):Int)=i;have i1:i<(ls.length:Int):=by omega
  have i4:0≤i:=by omega
  have i2:i.toNat=k:=by omega
  have HIi:=yH hi;clear hi;have d0:wr.cell? ⟨bl,ol+(i.toNat)*5,none⟩=some (.int .u8 ls[k].cr):=by rw[i2];exact HC.o k hkl 0 (by omega)
  have d1:wr.cell? ⟨bl,ol+(i.toNat)*5+1,none⟩=some (.int .u8 ls[k].de):=by rw[i2];exact HC.o k hkl 1 (by omega)
  have d2:wr.cell? ⟨bl,ol+(i.toNat)*5+2,none⟩=some (.int .u8 ls[k].cu):=by rw[i2];exact HC.o k hkl 2 (by omega)
  have d3:wr.cell? ⟨bl,ol+(i.toNat)*5+3,none⟩=some (.int .i64 ls[k].li):=by rw[i2];exact HC.o k hkl 3 (by omega)
  have d4:wr.cell? ⟨bl,ol+(i.toNat)*5+4,none⟩=some (.int .i64 ls[k].db):=by rw[i2];exact HC.o k hkl 4 (by omega)
  by_cases hk0:0<k
  ·have i0:0<i:=by omega
   have s0:decide (0<i)=true:=by rw[decide_eq_true_eq];omega
   have i3:(i.toNat - 1)=k - 1:=by omega
   have y0:wr.cell? ⟨bl,ol+(i.toNat - 1)*5,none⟩=some (.int .u8 (ls[k - 1]'hkm).cr):=by rw[i3];exact HC.o (k - 1) hkm 0 (by omega)
   have y1:wr.cell? ⟨bl,ol+(i.toNat - 1)*5+1,none⟩=some (.int .u8 (ls[k - 1]'hkm).de):=by rw[i3];exact HC.o (k - 1) hkm 1 (by omega)
   have y2:wr.cell? ⟨bl,ol+(i.toNat - 1)*5+2,none⟩=some (.int .u8 (ls[k - 1]'hkm).cu):=by rw[i3];exact HC.o (k - 1) hkm 2 (by omega)
   have y3:wr.cell? ⟨bl,ol+(i.toNat - 1)*5+3,none⟩=some (.int .i64 (ls[k - 1]'hkm).li):=by rw[i3];exact HC.o (k - 1) hkm 3 (by omega)
   have y4:wr.cell? ⟨bl,ol+(i.toNat - 1)*5+4,none⟩=some (.int .i64 (ls[k - 1]'hkm).db):=by rw[i3];exact HC.o (k - 1) hkm 4 (by omega)
   have hs0:=lines_step (zs:=zs) hkl h64 HO.o (fun _=>HF.o) hk0;clear HC i3;clear i2;generalize hxe:ls[k]=x at *;generalize hye:ls[k - 1]'hkm=y at *;clear hxe hye;rcases hs0 with⟨hrk,HB⟩|⟨hrk,HB,q2⟩|⟨hrk,HB,q2,q3⟩|⟨hrk,HB,q2,q3,q4⟩|⟨hrk,HB,q2,q3,q4,er,her,CT0⟩|⟨hrk,q2,q3,q4,CT0,HS,HN,HTF⟩
   ·have bw:=(Below.refl wr.heap.size wr).alloc yL (.cells #[.int .u8 x.cr,.int .u8 x.de,.int .u8 x.cu,.int .i64 x.li,.int .i64 x.db] 71);have HY0:=yH ((bw.cell (p:=⟨bl,ol+(i.toNat - 1)*5,none⟩) hbl1).trans y0);have HY1:=yH ((bw.cell (p:=⟨bl,ol+(i.toNat - 1)*5+1,none⟩) hbl1).trans y1);have HY2:=yH ((bw.cell (p:=⟨bl,ol+(i.toNat - 1)*5+2,none⟩) hbl1).trans y2);have HY3:=yH ((bw.cell (p:=⟨bl,ol+(i.toNat - 1)*5+3,none⟩) hbl1).trans y3);have HY4:=yH ((bw.cell (p:=⟨bl,ol+(i.toNat - 1)*5+4,none⟩) hbl1).trans y4);have HBl:=yH (yM hbl1 bw.size);have B5:=yT B1 bw;have HL2:=yH (H1.o.below bw);have KX:=yH (Blk.new wr #[.int .u8 x.cr,.int .u8 x.de,.int .u8 x.cu,.int .i64 x.li,.int .i64 x.db] 71);have HGX:Hid (¬G=wr.heap.size):=yH (by have:=H1.o.blk.lt;omega);clear bw H1 B1;go_wp2_with fail;generalize wr.alloc (.cells #[.int .u8 x.cr,.int .u8 x.de,.int .u8 x.cu,.int .i64 x.li,.int .i64 x.db] 71)=W at *;clear y0 y1 y2 y3 y4;clear d0 d1 d2 d3 d4;have c1:decide (x.rank≤y.rank)=true:=by simp;omega
    clear hrk;refine rof_lt1 KX FX FY HBl HY0 HY1 HY2 HY3 HY4 i0 i1 hll s0 c1 ?_;intro w6 b6;have B6:=yT B5 b6;clear b6 B5 HL2 KX;go_wp2_with fail;refine bodyPost_ret (v:=.tuple #[.pointer none,.int .i64 1]) (by simp[results,Tryz.results68,go_sem]) rfl ?_;exact⟨B6.o,.inr (.inr ⟨rfl,.inr ⟨HP.o,by omega,HB.o⟩⟩)⟩
   ·have bw:=(Below.refl wr.heap.size wr).alloc yL (.cells #[.int .u8 x.cr,.int .u8 x.de,.int .u8 x.cu,.int .i64 x.li,.int .i64 x.db] 71);have HY0:=yH ((bw.cell (p:=⟨bl,ol+(i.toNat - 1)*5,none⟩) hbl1).trans y0);have HY1:=yH ((bw.cell (p:=⟨bl,ol+(i.toNat - 1)*5+1,none⟩) hbl1).trans y1);have HY2:=yH ((bw.cell (p:=⟨bl,ol+(i.toNat - 1)*5+2,none⟩) hbl1).trans y2);have HY3:=yH ((bw.cell (p:=⟨bl,ol+(i.toNat - 1)*5+3,none⟩) hbl1).trans y3);have HY4:=yH ((bw.cell (p:=⟨bl,ol+(i.toNat - 1)*5+4,none⟩) hbl1).trans y4);have HBl:=yH (yM hbl1 bw.size);have B5:=yT B1 bw;have HL2:=yH (H1.o.below bw);have KX:=yH (Blk.new wr #[.int .u8 x.cr,.int .u8 x.de,.int .u8 x.cu,.int .i64 x.li,.int .i64 x.db] 71);have HGX:Hid (¬G=wr.heap.size):=yH (by have:=H1.o.blk.lt;omega);clear bw H1 B1;go_wp2_with fail;generalize wr.alloc (.cells #[.int .u8 x.cr,.int .u8 x.de,.int .u8 x.cu,.int .i64 x.li,.int .i64 x.db] 71)=W at *;clear y0 y1 y2 y3 y4;clear d0 d1 d2 d3 d4;have c1:decide (x.rank≤y.rank)=false:=by simp;omega
    have c2:decide (x.li<1)=true:=by simp;omega
    clear hrk;clear q2;refine rof_lt2 KX FX FY HBl HY0 HY1 HY2 HY3 HY4 i0 i1 hll s0 c1 c2 ?_;intro w6 b6;have B6:=yT B5 b6;clear b6 B5 HL2 KX;go_wp2_with fail;refine bodyPost_ret (v:=.tuple #[.pointer none,.int .i64 1]) (by simp[results,Tryz.results68,go_sem]) rfl ?_;exact⟨B6.o,.inr (.inr ⟨rfl,.inr ⟨HP.o,by omega,HB.o⟩⟩)⟩
   ·have bw:=(Below.refl wr.heap.size wr).alloc yL (.cells #[.int .u8 x.cr,.int .u8 x.de,.int .u8 x.cu,.int .i64 x.li,.int .i64 x.db] 71);have HY0:=yH ((bw.cell (p:=⟨bl,ol+(i.toNat - 1)*5,none⟩) hbl1).trans y0);have HY1:=yH ((bw.cell (p:=⟨bl,ol+(i.toNat - 1)*5+1,none⟩) hbl1).trans y1);have HY2:=yH ((bw.cell (p:=⟨bl,ol+(i.toNat - 1)*5+2,none⟩) hbl1).trans y2);have HY3:=yH ((bw.cell (p:=⟨bl,ol+(i.toNat - 1)*5+3,none⟩) hbl1).trans y3);have HY4:=yH ((bw.cell (p:=⟨bl,ol+(i.toNat - 1)*5+4,none⟩) hbl1).trans y4);have HBl:=yH (yM hbl1 bw.size);have B5:=yT B1 bw;have HL2:=yH (H1.o.below bw);have KX:=yH (Blk.new wr #[.int .u8 x.cr,.int .u8 x.de,.int .u8 x.cu,.int .i64 x.li,.int .i64 x.db] 71);have HGX:Hid (¬G=wr.heap.size):=yH (by have:=H1.o.blk.lt;omega);clear bw H1 B1;go_wp2_with fail;generalize wr.alloc (.cells #[.int .u8 x.cr,.int .u8 x.de,.int .u8 x.cu,.int .i64 x.li,.int .i64 x.db] 71)=W at *;clear y0 y1 y2 y3 y4;clear d0 d1 d2 d3 d4;have c1:decide (x.rank≤y.rank)=false:=by simp;omega
    have c2:decide (x.li<1)=false:=by simp;omega
    have c3:decide (x.db<0)=true:=by simp;omega
    clear hrk;clear q2 q3;refine rof_lt3 KX FX FY HBl HY0 HY1 HY2 HY3 HY4 i0 i1 hll s0 c1 c2 c3 ?_;intro w6 b6;have B6:=yT B5 b6;clear b6 B5 HL2 KX;go_wp2_with fail;refine bodyPost_ret (v:=.tuple #[.pointer none,.int .i64 1]) (by simp[results,Tryz.results68,go_sem]) rfl ?_;exact⟨B6.o,.inr (.inr ⟨rfl,.inr ⟨HP.o,by omega,HB.o⟩⟩)⟩
   ·have bw:=(Below.refl wr.heap.size wr).alloc yL (.cells #[.int .u8 x.cr,.int .u8 x.de,.int .u8 x.cu,.int .i64 x.li,.int .i64 x.db] 71);have HY0:=yH ((bw.cell (p:=⟨bl,ol+(i.toNat - 1)*5,none⟩) hbl1).trans y0);have HY1:=yH ((bw.cell (p:=⟨bl,ol+(i.toNat - 1)*5+1,none⟩) hbl1).trans y1);have HY2:=yH ((bw.cell (p:=⟨bl,ol+(i.toNat - 1)*5+2,none⟩) hbl1).trans y2);have HY3:=yH ((bw.cell (p:=⟨bl,ol+(i.toNat - 1)*5+3,none⟩) hbl1).trans y3);have HY4:=yH ((bw.cell (p:=⟨bl,ol+(i.toNat - 1)*5+4,none⟩) hbl1).trans y4);have HBl:=yH (yM hbl1 bw.size);have B5:=yT B1 bw;have HL2:=yH (H1.o.below bw);have KX:=yH (Blk.new wr #[.int .u8 x.cr,.int .u8 x.de,.int .u8 x.cu,.int .i64 x.li,.int .i64 x.db] 71);have HGX:Hid (¬G=wr.heap.size):=yH (by have:=H1.o.blk.lt;omega);clear bw H1 B1;go_wp2_with fail;generalize wr.alloc (.cells #[.int .u8 x.cr,.int .u8 x.de,.int .u8 x.cu,.int .i64 x.li,.int .i64 x.db] 71)=W at *;clear y0 y1 y2 y3 y4;clear d0 d1 d2 d3 d4;have c1:decide (x.rank≤y.rank)=false:=by simp;omega
    have c2:decide (x.li<1)=false:=by simp;omega
    have c3:decide (x.db<0)=false:=by simp;omega
    have c4:decide (x.li<x.db)=true:=by simp;omega
    clear hrk;clear q2 q3 q4;refine rof_lt4 KX FX FY HBl HY0 HY1 HY2 HY3 HY4 i0 i1 hll s0 c1 c2 c3 c4 ?_;intro w6 b6;have B6:=yT B5 b6;clear b6 B5 HL2 KX;go_wp2_with fail;refine bodyPost_ret (v:=.tuple #[.pointer none,.int .i64 1]) (by simp[results,Tryz.results68,go_sem]) rfl ?_;exact⟨B6.o,.inr (.inr ⟨rfl,.inr ⟨HP.o,by omega,HB.o⟩⟩)⟩
   ·have bw:=(Below.refl wr.heap.size wr).alloc yL (.cells #[.int .u8 x.cr,.int .u8 x.de,.int .u8 x.cu,.int .i64 x.li,.int .i64 x.db] 71);have HY0:=yH ((bw.cell (p:=⟨bl,ol+(i.toNat - 1)*5,none⟩) hbl1).trans y0);have HY1:=yH ((bw.cell (p:=⟨bl,ol+(i.toNat - 1)*5+1,none⟩) hbl1).trans y1);have HY2:=yH ((bw.cell (p:=⟨bl,ol+(i.toNat - 1)*5+2,none⟩) hbl1).trans y2);have HY3:=yH ((bw.cell (p:=⟨bl,ol+(i.toNat - 1)*5+3,none⟩) hbl1).trans y3);have HY4:=yH ((bw.cell (p:=⟨bl,ol+(i.toNat - 1)*5+4,none⟩) hbl1).trans y4);have HBl:=yH (yM hbl1 bw.size);have B5:=yT B1 bw;have HL2:=yH (H1.o.below bw);have KX:=yH (Blk.new wr #[.int .u8 x.cr,.int .u8 x.de,.int .u8 x.cu,.int .i64 x.li,.int .i64 x.db] 71);have HGX:Hid (¬G=wr.heap.size):=yH (by have:=H1.o.blk.lt;omega);clear bw H1 B1;go_wp2_with fail;generalize wr.alloc (.cells #[.int .u8 x.cr,.int .u8 x.de,.int .u8 x.cu,.int .i64 x.li,.int .i64 x.db] 71)=W at *;clear y0 y1 y2 y3 y4;clear d0 d1 d2 d3 d4
    have CT:Hid (∀w',Below W.heap.size W w'→Calls Tryz.prog 82 #[.pointer (some ⟨G,0,none⟩),.int .u8 x.cr,.int .u8 x.de,.int .u8 x.cu,.int .i64 x.li] w' fun e w''=>e=.returned (.int .i64 er)∧TrustT W w.heap.size G zs (aAj zs (ls.take k) x.cr x.de x.cu x.li) vp w''):=yH fun w' kb=>by
     refine(aFc (HL2.o.below kb) HGd.o.1 HGd.o.2 x.cr x.de x.cu x.li).mono ?_;rintro e w'' ⟨h1,vl',h2,h3⟩;exact⟨by rw[h1,CT0],⟨vl',h2⟩,(pAD kb).trans h3⟩
    clear CT0;have c1:decide (x.rank≤y.rank)=false:=by simp;omega
    have c2:decide (x.li<1)=false:=by simp;omega
    have c3:decide (x.db<0)=false:=by simp;omega
    have c4:decide (x.li<x.db)=false:=by simp;omega
    clear hrk;clear q2 q3 q4;refine rof_lt5 KX FX FY HBl HY0 HY1 HY2 HY3 HY4 i0 i1 hll s0 c1 c2 c3 c4 her CT ?_;rintro w6 ⟨⟨vl6,hr6⟩,b6⟩;have B6:=yH (B5.o.trans (b6.below B5.o.size (fun q hq e=>by have:=HGs.o;omega)));have H6:=yH hr6;clear b6 hr6 B5 HL2 KX CT;go_wp2_with fail;refine bodyPost_ret (v:=.tuple #[.pointer none,.int .i64 1]) (by simp[results,Tryz.results68,go_sem]) rfl ?_;exact⟨B6.o,.inr (.inr ⟨rfl,.inr ⟨HP.o,by omega,HB.o⟩⟩)⟩
   have bw:=(Below.refl wr.heap.size wr).alloc yL (.cells #[.int .u8 x.cr,.int .u8 x.de,.int .u8 x.cu,.int .i64 x.li,.int .i64 x.db] 71);have HY0:=yH ((bw.cell (p:=⟨bl,ol+(i.toNat - 1)*5,none⟩) hbl1).trans y0);have HY1:=yH ((bw.cell (p:=⟨bl,ol+(i.toNat - 1)*5+1,none⟩) hbl1).trans y1);have HY2:=yH ((bw.cell (p:=⟨bl,ol+(i.toNat - 1)*5+2,none⟩) hbl1).trans y2);have HY3:=yH ((bw.cell (p:=⟨bl,ol+(i.toNat - 1)*5+3,none⟩) hbl1).trans y3);have HY4:=yH ((bw.cell (p:=⟨bl,ol+(i.toNat - 1)*5+4,none⟩) hbl1).trans y4);have HBl:=yH (yM hbl1 bw.size);have B5:=yT B1 bw;have HL2:=yH (H1.o.below bw);have KX:=yH (Blk.new wr #[.int .u8 x.cr,.int .u8 x.de,.int .u8 x.cu,.int .i64 x.li,.int .i64 x.db] 71);have HGX:Hid (¬G=wr.heap.size):=yH (by have:=H1.o.blk.lt;omega);clear bw H1 B1;go_wp2_with fail;generalize wr.alloc (.cells #[.int .u8 x.cr,.int .u8 x.de,.int .u8 x.cu,.int .i64 x.li,.int .i64 x.db] 71)=W at *;clear y0 y1 y2 y3 y4;clear d0 d1 d2 d3 d4
   have CT:Hid (∀w',Below W.heap.size W w'→Calls Tryz.prog 82 #[.pointer (some ⟨G,0,none⟩),.int .u8 x.cr,.int .u8 x.de,.int .u8 x.cu,.int .i64 x.li] w' fun e w''=>e=.returned (.int .i64 0)∧TrustT W w.heap.size G zs (aAj zs (ls.take k) x.cr x.de x.cu x.li) vp w''):=yH fun w' kb=>by
    refine(aFc (HL2.o.below kb) HGd.o.1 HGd.o.2 x.cr x.de x.cu x.li).mono ?_;rintro e w'' ⟨h1,vl',h2,h3⟩;exact⟨by rw[h1,CT0],⟨vl',h2⟩,(pAD kb).trans h3⟩
   clear CT0;have c1:decide (x.rank≤y.rank)=false:=by simp;omega
   have c2:decide (x.li<1)=false:=by simp;omega
   have c3:decide (x.db<0)=false:=by simp;omega
   have c4:decide (x.li<x.db)=false:=by simp;omega
   clear hrk;clear q2 q3 q4;refine rof_lt6 KX FX FY HBl HY0 HY1 HY2 HY3 HY4 i0 i1 hll s0 c1 c2 c3 c4 CT ?_;rintro w6 ⟨⟨vl6,hr6⟩,b6⟩;have B6:=yH (B5.o.trans (b6.below B5.o.size (fun q hq e=>by have:=HGs.o;omega)));have H6:=yH hr6;have KX6:=yH (KX.o.keep b6 (fun e=>HGX.o e.symm));clear b6 hr6 B5 HL2 KX CT;have lkx:=KX6.o.lt;have x0:=KX6.o.cell 0;have x1:=KX6.o.cell 1;have x2:=KX6.o.cell 2;have x3:=KX6.o.cell 3;have x4:=KX6.o.cell 4;simp at x0 x1 x2 x3 x4;have CS:=yH (aGc H6.o x FX.o HTF.o.1 HTF.o.2);go_wp2_with fail;refine CS.o.mono ?_;rintro e w7 ⟨rfl,vl7,hr7,k7⟩;clear CS lkx x0 x1 x2 x3 x4 KX6;have B7:=yH (B6.o.trans (k7.below B6.o.size (fun q hq e=>by have:=HGs.o;omega)));rw[HS.o]at hr7;have H7:=yH hr7;clear hr7 k7 B6 H6;go_wp2_with fail;go_roundw
   case rel=>exact⟨k+1,vp,vl7,by omega,by have:=HIi.o;first|go_num|(congr 1;omega),HN.o,H7.o,B7.o⟩
   case measure=>have:=HIi.o;simp[intOf];omega
  have s0:decide (0<i)=false:=by simp;omega
  have hs0:=aJ6 (zs:=zs) hkl h64 HO.o HF.o (fun h=>absurd h hk0);clear HC FY;clear i2;generalize hxe:ls[k]=x at *;clear hxe;rcases hs0 with⟨HB,q2⟩|⟨HB,q2,q3⟩|⟨HB,q2,q3,q4⟩|⟨HB,q2,q3,q4,er,her,CT0⟩|⟨q2,q3,q4,CT0,HS,HN,HTF⟩
  ·have bw:=(Below.refl wr.heap.size wr).alloc yL (.cells #[.int .u8 x.cr,.int .u8 x.de,.int .u8 x.cu,.int .i64 x.li,.int .i64 x.db] 71);have B5:=yT B1 bw;have HL2:=yH (H1.o.below bw);have KX:=yH (Blk.new wr #[.int .u8 x.cr,.int .u8 x.de,.int .u8 x.cu,.int .i64 x.li,.int .i64 x.db] 71);have HGX:Hid (¬G=wr.heap.size):=yH (by have:=H1.o.blk.lt;omega);clear bw H1 B1;go_wp2_with fail;generalize wr.alloc (.cells #[.int .u8 x.cr,.int .u8 x.de,.int .u8 x.cu,.int .i64 x.li,.int .i64 x.db] 71)=W at *;clear d0 d1 d2 d3 d4;have c2:decide (x.li<1)=true:=by simp;omega
   clear q2;refine rof_lf2 (y:=noLn) KX FX s0 c2 ?_;intro w6 b6;have B6:=yT B5 b6;clear b6 B5 HL2 KX;go_wp2_with fail;refine bodyPost_ret (v:=.tuple #[.pointer none,.int .i64 1]) (by simp[results,Tryz.results68,go_sem]) rfl ?_;exact⟨B6.o,.inr (.inr ⟨rfl,.inr ⟨HP.o,by omega,HB.o⟩⟩)⟩
  ·have bw:=(Below.refl wr.heap.size wr).alloc yL (.cells #[.int .u8 x.cr,.int .u8 x.de,.int .u8 x.cu,.int .i64 x.li,.int .i64 x.db] 71);have B5:=yT B1 bw;have HL2:=yH (H1.o.below bw);have KX:=yH (Blk.new wr #[.int .u8 x.cr,.int .u8 x.de,.int .u8 x.cu,.int .i64 x.li,.int .i64 x.db] 71);have HGX:Hid (¬G=wr.heap.size):=yH (by have:=H1.o.blk.lt;omega);clear bw H1 B1;go_wp2_with fail;generalize wr.alloc (.cells #[.int .u8 x.cr,.int .u8 x.de,.int .u8 x.cu,.int .i64 x.li,.int .i64 x.db] 71)=W at *;clear d0 d1 d2 d3 d4;have c2:decide (x.li<1)=false:=by simp;omega
   have c3:decide (x.db<0)=true:=by simp;omega
   clear q2 q3;refine rof_lf3 (y:=noLn) KX FX s0 c2 c3 ?_;intro w6 b6;have B6:=yT B5 b6;clear b6 B5 HL2 KX;go_wp2_with fail;refine bodyPost_ret (v:=.tuple #[.pointer none,.int .i64 1]) (by simp[results,Tryz.results68,go_sem]) rfl ?_;exact⟨B6.o,.inr (.inr ⟨rfl,.inr ⟨HP.o,by omega,HB.o⟩⟩)⟩
  ·have bw:=(Below.refl wr.heap.size wr).alloc yL (.cells #[.int .u8 x.cr,.int .u8 x.de,.int .u8 x.cu,.int .i64 x.li,.int .i64 x.db] 71);have B5:=yT B1 bw;have HL2:=yH (H1.o.below bw);have KX:=yH (Blk.new wr #[.int .u8 x.cr,.int .u8 x.de,.int .u8 x.cu,.int .i64 x.li,.int .i64 x.db] 71);have HGX:Hid (¬G=wr.heap.size):=yH (by have:=H1.o.blk.lt;omega);clear bw H1 B1;go_wp2_with fail;generalize wr.alloc (.cells #[.int .u8 x.cr,.int .u8 x.de,.int .u8 x.cu,.int .i64 x.li,.int .i64 x.db] 71)=W at *;clear d0 d1 d2 d3 d4;have c2:decide (x.li<1)=false:=by simp;omega
   have c3:decide (x.db<0)=false:=by simp;omega
   have c4:decide (x.li<x.db)=true:=by simp;omega
   clear q2 q3 q4;refine rof_lf4 (y:=noLn) KX FX s0 c2 c3 c4 ?_;intro w6 b6;have B6:=yT B5 b6;clear b6 B5 HL2 KX;go_wp2_with fail;refine bodyPost_ret (v:=.tuple #[.pointer none,.int .i64 1]) (by simp[results,Tryz.results68,go_sem]) rfl ?_;exact⟨B6.o,.inr (.inr ⟨rfl,.inr ⟨HP.o,by omega,HB.o⟩⟩)⟩
  ·have bw:=(Below.refl wr.heap.size wr).alloc yL (.cells #[.int .u8 x.cr,.int .u8 x.de,.int .u8 x.cu,.int .i64 x.li,.int .i64 x.db] 71);have B5:=yT B1 bw;have HL2:=yH (H1.o.below bw);have KX:=yH (Blk.new wr #[.int .u8 x.cr,.int .u8 x.de,.int .u8 x.cu,.int .i64 x.li,.int .i64 x.db] 71);have HGX:Hid (¬G=wr.heap.size):=yH (by have:=H1.o.blk.lt;omega);clear bw H1 B1;go_wp2_with fail;generalize wr.alloc (.cells #[.int .u8 x.cr,.int .u8 x.de,.int .u8 x.cu,.int .i64 x.li,.int .i64 x.db] 71)=W at *;clear d0 d1 d2 d3 d4
   have CT:Hid (∀w',Below W.heap.size W w'→Calls Tryz.prog 82 #[.pointer (some ⟨G,0,none⟩),.int .u8 x.cr,.int .u8 x.de,.int .u8 x.cu,.int .i64 x.li] w' fun e w''=>e=.returned (.int .i64 er)∧TrustT W w.heap.size G zs (aAj zs (ls.take k) x.cr x.de x.cu x.li) vp w''):=yH fun w' kb=>by
    refine(aFc (HL2.o.below kb) HGd.o.1 HGd.o.2 x.cr x.de x.cu x.li).mono ?_;rintro e w'' ⟨h1,vl',h2,h3⟩;exact⟨by rw[h1,CT0],⟨vl',h2⟩,(pAD kb).trans h3⟩
   clear CT0;have c2:decide (x.li<1)=false:=by simp;omega
   have c3:decide (x.db<0)=false:=by simp;omega
   have c4:decide (x.li<x.db)=false:=by simp;omega
   clear q2 q3 q4;refine rof_lf5 (y:=noLn) KX FX s0 c2 c3 c4 her CT ?_;rintro w6 ⟨⟨vl6,hr6⟩,b6⟩;have B6:=yH (B5.o.trans (b6.below B5.o.size (fun q hq e=>by have:=HGs.o;omega)));have H6:=yH hr6;clear b6 hr6 B5 HL2 KX CT;go_wp2_with fail;refine bodyPost_ret (v:=.tuple #[.pointer none,.int .i64 1]) (by simp[results,Tryz.results68,go_sem]) rfl ?_;exact⟨B6.o,.inr (.inr ⟨rfl,.inr ⟨HP.o,by omega,HB.o⟩⟩)⟩
  have bw:=(Below.refl wr.heap.size wr).alloc yL (.cells #[.int .u8 x.cr,.int .u8 x.de,.int .u8 x.cu,.int .i64 x.li,.int .i64 x.db] 71);have B5:=yT B1 bw;have HL2:=yH (H1.o.below bw);have KX:=yH (Blk.new wr #[.int .u8 x.cr,.int .u8 x.de,.int .u8 x.cu,.int .i64 x.li,.int .i64 x.db] 71);have HGX:Hid (¬G=wr.heap.size):=yH (by have:=H1.o.blk.lt;omega);clear bw H1 B1;go_wp2_with fail;generalize wr.alloc (.cells #[.int .u8 x.cr,.int .u8 x.de,.int .u8 x.cu,.int .i64 x.li,.int .i64 x.db] 71)=W at *;clear d0 d1 d2 d3 d4
  have CT:Hid (∀w',Below W.heap.size W w'→Calls Tryz.prog 82 #[.pointer (some ⟨G,0,none⟩),.int .u8 x.cr,.int .u8 x.de,.int .u8 x.cu,.int .i64 x.li] w' fun e w''=>e=.returned (.int .i64 0)∧TrustT W w.heap.size G zs (aAj zs (ls.take k) x.cr x.de x.cu x.li) vp w''):=yH fun w' kb=>by
   refine(aFc (HL2.o.below kb) HGd.o.1 HGd.o.2 x.cr x.de x.cu x.li).mono ?_;rintro e w'' ⟨h1,vl',h2,h3⟩;exact⟨by rw[h1,CT0],⟨vl',h2⟩,(pAD kb).trans h3⟩
  clear CT0;have c2:decide (x.li<1)=false:=by simp;omega
  have c3:decide (x.db<0)=false:=by simp;omega
  have c4:decide (x.li<x.db)=false:=by simp;omega
  clear q2 q3 q4;refine rof_lf6 (y:=noLn) KX FX s0 c2 c3 c4 CT ?_;rintro w6 ⟨⟨vl6,hr6⟩,b6⟩;have B6:=yH (B5.o.trans (b6.below B5.o.size (fun q hq e=>by have:=HGs.o;omega)));have H6:=yH hr6;have KX6:=yH (KX.o.keep b6 (fun e=>HGX.o e.symm));clear b6 hr6 B5 HL2 KX CT;have lkx:=KX6.o.lt;have x0:=KX6.o.cell 0;have x1:=KX6.o.cell 1;have x2:=KX6.o.cell 2;have x3:=KX6.o.cell 3;have x4:=KX6.o.cell 4;simp at x0 x1 x2 x3 x4;have CS:=yH (aGc H6.o x FX.o HTF.o.1 HTF.o.2);go_wp2_with fail;refine CS.o.mono ?_;rintro e w7 ⟨rfl,vl7,hr7,k7⟩;clear CS lkx x0 x1 x2 x3 x4 KX6;have B7:=yH (B6.o.trans (k7.below B6.o.size (fun q hq e=>by have:=HGs.o;omega)));rw[HS.o]at hr7;have H7:=yH hr7;clear hr7 k7 B6 H6;go_wp2_with fail;go_roundw
  case rel=>exact⟨k+1,vp,vl7,by omega,by have:=HIi.o;first|go_num|(congr 1;omega),HN.o,H7.o,B7.o⟩
  case measure=>have:=HIi.o;simp[intOf];omega
 rw[List.take_of_length_le (by omega)]at HO H1;go_wp2_with fail;refine bodyPost_ret (v:=.tuple #[.pointer (some ⟨G,0,none⟩),.int .i64 0]) (by simp[results,Tryz.results68,go_sem]) rfl ?_;exact⟨B1.o,.inl ⟨HP.o,h64,HO.o,G,vp,vl,rfl,H1.o⟩⟩
def RM(w:World)(base k rl rb:Nat)(σ:Hs)(vp vl vb:Value):Prop:=Blk w k #[.pointer (some ⟨rl,0,none⟩),.pointer (some ⟨rb,0,none⟩)] 106∧base≤k∧RefL w base rl σ.ps σ.ls vp vl∧RefB w base rb σ.l σ.N vb
theorem refl_down{w:World}{base base' g:Nat}{ps:List Int}{ls:List Ln}{vp vl:Value}(h:RefL w base g ps ls vp vl)(hb:base'≤base):RefL w base' g ps ls vp vl:=⟨h.blk,Nat.le_trans hb h.ge,aBo h.p hb,aBo h.l hb⟩
theorem refb_down{w:World}{base base' g:Nat}{l:List Of}{N:Int}{vl:Value}(h:RefB w base g l N vl)(hb:base'≤base):RefB w base' g l N vl:=⟨h.blk,Nat.le_trans hb h.ge,aBo h.row hb⟩
def RMOfPost(w:World)(σ:Hs)(e:Ending)(w':World):Prop:=
 Below w.heap.size w w'∧((mofE σ=0∧∃k rl rb vp vl vb,e=.returned (.tuple #[.pointer (some ⟨k,0,none⟩),.int .i64 0])∧RM w' w.heap.size k rl rb σ vp vl vb)∨(mofE σ≠0∧e=.returned (.tuple #[.pointer none,.int .i64 (mofE σ)])))
open Classical in
theorem rmof_any{w:World}{ps:List Int}{ls:List Ln}{l:List Of}{N:Int}{vp vl:Value}{oo:Option Addr}{oc:Nat}(hp:aAs w vp 1 ps.length (ps.map (.int .u8)))(hl:aAs w vl 5 ls.length (aAd ls))(ho:aAs w (.slice oo l.length oc) 7 l.length (aAe l))(h0:oo=none→oc=0)(hf:∀x∈ls,x.Fits)(hll:l.length≤100):
  Calls Tryz.prog 33 #[.agg #[vp,vl,.slice oo l.length oc,.int .u64 N]] w (RMOfPost w ⟨ps,ls,l,N⟩):=by
 have b1:=(Below.refl w.heap.size w).alloc yL (.cells #[vp,vl,.slice oo l.length oc,.int .u64 N] 48);have KX:=yH (Blk.new w #[vp,vl,.slice oo l.length oc,.int .u64 N] 48);have B1:=yH b1;have HO:=yH (ho.below b1);have CL:=yH (rof_any (hp.below b1) (hl.below b1) hf);have CB:=yH (fun w' (k:Below w.heap.size w w')=>bof_any (nx:=N) (ho.below k) h0 hll);have HN:=yH hll;clear hp hl ho h0 hf hll b1;go_enter Tryz.func33,Tryz.ntmps33
 go_upto_region 1 with fail
 generalize w.alloc (.cells #[vp,vl,.slice oo l.length oc,.int .u64 N] 48)=W at *;have x0:=KX.o.cell 0;have x1:=KX.o.cell 1;have xl:=KX.o.lt;simp at x0 x1;go_wp2_with fail;refine CL.o.mono ?_;rintro e w1 ⟨b2,h⟩;clear CL x0 x1 xl;have B2:=yT B1 b2;have KX2:=yB KX b2;have HO2:=yH (HO.o.below b2);have hWs:Hid (w.heap.size≤W.heap.size):=yH B1.o.size;clear b2;rcases h with⟨hp,h64,hL,G,gp,gl,rfl,led⟩|⟨rfl,hp,h64⟩|⟨rfl,hb⟩
 ·have LD:=yH led;have OKP:=yH hp
  have EE:Hid (mofE ⟨ps,ls,l,N⟩=if 32<l.length then 9 else if ¬(okO N l∧N≠0)then 1 else if ∃o∈l,o.ow∉ps then 1 else 0):=yH (by
   unfold mofE;rw[if_neg (by simpa using hp),if_neg (by simpa using h64),if_neg (by simpa using hL)])
  clear hp h64 hL led;have x2:=KX2.o.cell 2;have x3:=KX2.o.cell 3;have xl:=KX2.o.lt;simp at x2 x3;go_wp2_with fail;refine(CB.o w1 B2.o).mono ?_;rintro e w2 ⟨b3,h⟩;clear CB x2 x3 xl;have B3:=yT B2 b3;have KX3:=yB KX2 b3;have HO3:=yH (HO2.o.below b3);have LD3:=yH (LD.o.below b3);have hw1:Hid (w.heap.size≤w1.heap.size):=yH B2.o.size;clear b3;rcases h with⟨h32,hO,hN,gb,vb,rfl,pb⟩|⟨rfl,h32⟩|⟨rfl,h32,hb⟩
  ·have PB3:=yH pb
   have EF:Hid (mofE ⟨ps,ls,l,N⟩=if ∃o∈l,o.ow∉ps then 1 else 0):=yH (by
    rw[EE.o,if_neg (by omega),if_neg (fun q=>q ⟨hO,hN⟩)])
   clear h32 hO hN pb EE;have x2:=KX3.o.cell 2;have xl:=KX3.o.lt;simp at x2;go_wp2_with fail;clear x2 xl
   go_loopw [8] (OhAt w2 l ps) (fun i _=>l.length - (intOf i).toNat)
   case atStart=>exact⟨0,Nat.zero_le _,rfl,(fun o ho=>by cases ho),yZ⟩
   obtain⟨k,hk,rfl,hal,hb⟩:=hrel;have BW:=yH hb;have hl100:=HN.o;have KX4:=yB KX3 hb;have x2:=KX4.o.cell 2;have xl:=KX4.o.lt;simp at x2
   by_cases hkl:k<l.length
   ·have hki:(k:Int)<(l.length:Int):=by omega
    have hk0:(0:Int)≤(k:Int):=by omega
    have q1:decide ((k:Int)<(l.length:Int))=true:=by simpa using hkl
    obtain⟨b,off,rfl,hbl,hc⟩:=HO3.o.row hb hkl (by decide);have e1:=(hc 1 (by decide)).trans (aAf l k 1 (by decide) hkl);have HK:=yH hkl;have MM1:=yH (List.getElem_mem hkl)
    have AL:Hid (l[k].ow∈ps→∀o∈l.take (k+1),o.ow∈ps):=yH (fun h o ho=>by
     rw[List.take_succ_eq_append_getElem hkl]at ho;rcases List.mem_append.1 ho with ho|ho
     ·exact hal o ho
     rw[List.mem_singleton]at ho;rw[ho];exact h)
    clear hc hb hk hal;generalize l[k]=y at *;simp[Of.vals]at e1;clear hkl;have LD4:=yH (LD3.o.below BW.o);go_wp2_with fail;refine(aE9 LD4.o y.ow).mono ?_;rintro e w5 ⟨rfl,rfl⟩;clear e1 x2 xl
    by_cases hy:y.ow∈ps
    ·have r1:decide (y.ow∈ps)=true:=by simpa using hy
     have AA:=yH (AL.o hy);clear hy;go_wp2_with fail;have hkl:=HK.o;exact⟨⟨k+1,by omega,by go_num,AA.o,BW.o⟩,by simp[intOf];omega⟩
    have r1:decide (y.ow∈ps)=false:=by simpa using hy
    have EZ:Hid (mofE ⟨ps,ls,l,N⟩=1):=yH (by rw[EF.o,if_pos ⟨y,MM1.o,hy⟩]);clear hy;go_wp2_with fail;refine bodyPost_ret (v:=.tuple #[.pointer none,.int .i64 1]) (by simp[results,Tryz.results33,go_sem]) rfl ?_;exact⟨andB B3.o BW.o,.inr ⟨by rw[EZ.o];decide,by rw[EZ.o]⟩⟩
   have hkn:k=l.length:=by omega
   subst hkn;have q1:decide (((l.length:Nat):Int)<(l.length:Int))=false:=by simp
   rw[List.take_length]at hal;have EZ:Hid (mofE ⟨ps,ls,l,N⟩=0):=yH (by rw[EF.o,if_neg (by rintro⟨o,ho,hn⟩;exact hn (hal o ho))]);have LD4:=yH (LD3.o.below hb);have PB4:=yH (PB3.o.below hb);clear hkl hk hb hal;go_wp2_with fail;have bz:=(Below.refl wr.heap.size wr).alloc yL (.cells #[.pointer (some ⟨G,0,none⟩),.pointer (some ⟨gb,0,none⟩)] 106);have KM:=yH (Blk.new wr #[.pointer (some ⟨G,0,none⟩),.pointer (some ⟨gb,0,none⟩)] 106);refine bodyPost_ret (v:=.tuple #[.pointer (some ⟨wr.heap.size,0,none⟩),.int .i64 0]) (by simp[results,Tryz.results33,go_sem]) rfl ?_;refine⟨andB (andB B3.o BW.o) bz,.inl ⟨EZ.o,_,_,_,_,_,_,rfl,KM.o,Nat.le_trans B3.o.size BW.o.size,refl_down (LD4.o.below bz) hWs.out,refb_down (PB4.o.below bz) hw1.out⟩⟩
  ·have EF:Hid (mofE ⟨ps,ls,l,N⟩=9):=yH (by rw[EE.o,if_pos h32]);clear h32 EE;go_wp2_with fail;refine bodyPost_ret (v:=.tuple #[.pointer none,.int .i64 9]) (by simp[results,Tryz.results33,go_sem]) rfl ?_;exact⟨B3.o,.inr ⟨by rw[EF.o];decide,by rw[EF.o]⟩⟩
  have EF:Hid (mofE ⟨ps,ls,l,N⟩=1):=yH (by rw[EE.o,if_neg (by omega),if_pos hb]);clear h32 hb EE;go_wp2_with fail;refine bodyPost_ret (v:=.tuple #[.pointer none,.int .i64 1]) (by simp[results,Tryz.results33,go_sem]) rfl ?_;exact⟨B3.o,.inr ⟨by rw[EF.o];decide,by rw[EF.o]⟩⟩
 ·have EF:Hid (mofE ⟨ps,ls,l,N⟩=9):=yH (by unfold mofE;rw[if_neg (by simpa using hp),if_pos h64]);clear hp h64;go_wp2_with fail;refine bodyPost_ret (v:=.tuple #[.pointer none,.int .i64 9]) (by simp[results,Tryz.results33,go_sem]) rfl ?_;exact⟨B2.o,.inr ⟨by rw[EF.o];decide,by rw[EF.o]⟩⟩
 have EF:Hid (mofE ⟨ps,ls,l,N⟩=1):=yH (by
  unfold mofE;rcases hb with hb|⟨hp,h64,hL⟩
  ·rw[if_pos hb]
  rw[if_neg (by simpa using hp),if_neg (by simpa using h64),if_pos hL])
 clear hb;go_wp2_with fail;refine bodyPost_ret (v:=.tuple #[.pointer none,.int .i64 1]) (by simp[results,Tryz.results33,go_sem]) rfl ?_;exact⟨B2.o,.inr ⟨by rw[EF.o];decide,by rw[EF.o]⟩⟩
def RStatePost(w:World)(σ:Hs)(e:Ending)(w':World):Prop:=∃vp vl vo,e=.returned (.agg #[vp,vl,vo,.int .u64 σ.N])∧aEj w' σ vp vl vo∧Below w.heap.size w w'
theorem aOa{w:World}{base k rl rb:Nat}{σ:Hs}{vp vl vb:Value}(h:RM w base k rl rb σ vp vl vb)(h1:σ.ps.length≤1000)(h2:σ.ls.length≤1000)(h3:σ.l.length≤1000):
  Calls Tryz.prog 22 #[.pointer (some ⟨k,0,none⟩)] w (RStatePost w σ):=by
 obtain⟨ps,ls,l,N⟩:=σ;obtain⟨hk,_,hL,hB⟩:=h;dsimp only at *;have b0:=(Below.refl w.heap.size w).alloc yL (.cells #[.slice none 0 0,.slice none 0 0,.slice none 0 0,.int .u64 0] 48);have KR:=yH (Blk.new w #[.slice none 0 0,.slice none 0 0,.slice none 0 0,.int .u64 0] 48);have KK:=yH (hk.below b0 hk.lt);have CC:=yH (aN7 (hL.below b0) (hB.below b0) h1 h2 h3);have B0:=yH b0;have H1:=yH h1;have H2:=yH h2;have H3:=yH h3;clear hk hL hB b0 h1 h2 h3;go_enter Tryz.func22,Tryz.ntmps22
 go_upto_region 1 with fail
 generalize w.alloc (.cells #[.slice none 0 0,.slice none 0 0,.slice none 0 0,.int .u64 0] 48)=W at *;have x0:=KK.o.cell 0;have x1:=KK.o.cell 1;have xl:=KK.o.lt;simp at x0 x1;go_wp2_with fail;refine CC.o.mono ?_;rintro e w1 ⟨gl,gb,vp,vl,vb,rfl,hl,hb,_,_,o1,o2,o3,bc⟩;have hkl:=KR.o.lt;have O1:=yH o1;have O2:=yH o2;have O3:=yH o3;have HW:Hid (w.heap.size<W.heap.size):=yH hkl;clear x0 x1 xl CC o1 o2 o3 hkl;have KR1:=yB KR bc;have B1:=yH (andB B0.o bc);clear KR KK B0 bc
 go_upto_region 2 with(refine aAb rfl 103 (.tmp 3) (.tmp 8) rfl w1.heap.size #[.pointer (some ⟨gl,0,none⟩),.pointer (some ⟨gb,0,none⟩)] rfl rfl 103 _ (Blk.new w1 #[.pointer none,.pointer none] 103).out (by kernel_rfl) rfl (by simp[Value.oneCell']) ?_)
 have b6:Below w1.heap.size w1 ((w1.alloc (.cells #[.pointer none,.pointer none] 103)).setRow w1.heap.size #[.pointer (some ⟨gl,0,none⟩),.pointer (some ⟨gb,0,none⟩)]):=below_setRow ((Below.refl w1.heap.size w1).alloc yL (.cells #[.pointer none,.pointer none] 103)) yL _;have KC:=yH ((Blk.new w1 #[.pointer none,.pointer none] 103).row (cs:=#[.pointer (some ⟨gl,0,none⟩),.pointer (some ⟨gb,0,none⟩)]));generalize (w1.alloc (.cells #[.pointer none,.pointer none] 103)).setRow w1.heap.size #[.pointer (some ⟨gl,0,none⟩),.pointer (some ⟨gb,0,none⟩)]=w2 at *;have KR2:=yB KR1 b6;have B2:=yH (andB B1.o b6);have HL:=yH (hl.below b6);have HB:=yH (hb.below b6);clear hl hb b6 KR1 B1;obtain⟨ap,cp,rfl,_⟩:=aAh HL.o.p;obtain⟨al,cl,rfl,_⟩:=aAh HL.o.l;obtain⟨ab,cb,rfl,_⟩:=aAh HB.o.row
 refine aBq (by kernel_rfl) 21 16 [(.pointer (some ⟨w1.heap.size,0,none⟩)),(.pointer (some ⟨gl,0,none⟩)),(.pointer (some ⟨gl,0,none⟩)),(.pointer (some ⟨gl,0,none⟩)),(.slice ap ps.length cp),(.pointer (some ⟨w1.heap.size,0,none⟩)),(.pointer (some ⟨gl,0,none⟩)),(.pointer (some ⟨gl,0,none⟩)),(.pointer (some ⟨gl,1,none⟩)),(.slice al ls.length cl),(.pointer (some ⟨w1.heap.size,1,none⟩)),(.pointer (some ⟨gb,0,none⟩)),(.pointer (some ⟨gb,0,none⟩)),(.pointer (some ⟨gb,0,none⟩)),(.slice ab l.length cb),(.pointer (some ⟨w1.heap.size,1,none⟩)),(.pointer (some ⟨gb,0,none⟩)),(.pointer (some ⟨gb,0,none⟩)),(.pointer (some ⟨gb,1,none⟩)),(.int .u64 N),(.agg #[.slice ap ps.length cp,.slice al ls.length cl,.slice ab l.length cb,.int .u64 N])]
  (fun w'=>Below w2.heap.size w2 w') (by kernel_rfl) rfl (by kernel_rfl) yZ.drew ?_
 intro af haf;simp only[yG,List.append_eq,List.cons_append,List.nil_append,puts,Act.put,yA,yC,yF,yD,yE]at haf;subst haf;refine⟨?_,?_⟩
 ·simp only[yG,List.take_succ_cons,List.take_zero,aAv];refine⟨?z1,?z6,?z8,?z9,?z10,?z2,?z7,?z11,?z12,?z13,?z3,?z14,?z16,?z17,?z18,?z4,?z15,?z19,?z20,?z21,?z5,trivial⟩
  case z1|z2|z3|z4|z5=>
   intro w' hS;refine yO rfl ?_;have HS:=yH hS;clear hS;go_wp2_with fail;all_goals first|exact HS|exact⟨rfl,HS⟩|rfl|exact⟨by omega,HS.o⟩
  case z6|z7=>
   intro w' hS;refine yO rfl ?_;have d:=(KC.o.below hS KC.o.lt).cell 0;have dl:=(KC.o.below hS KC.o.lt).lt;simp at d;have HS:=yH hS;clear hS;go_wp2_with fail;all_goals first|exact HS|exact⟨rfl,HS⟩|rfl|exact⟨by omega,HS.o⟩
  case z8|z9|z10=>
   intro w' hS;refine yO rfl ?_;have d:=(HL.o.blk.below hS HL.o.blk.lt).cell 0;have dl:=(HL.o.blk.below hS HL.o.blk.lt).lt;simp at d;have HS:=yH hS;clear hS;go_wp2_with fail;all_goals first|exact HS|exact⟨rfl,HS⟩|rfl|exact⟨by omega,HS.o⟩
  case z11|z12|z13=>
   intro w' hS;refine yO rfl ?_;have d:=(HL.o.blk.below hS HL.o.blk.lt).cell 1;have dl:=(HL.o.blk.below hS HL.o.blk.lt).lt;simp at d;have HS:=yH hS;clear hS;go_wp2_with fail;all_goals first|exact HS|exact⟨rfl,HS⟩|rfl|exact⟨by omega,HS.o⟩
  case z14|z15=>
   intro w' hS;refine yO rfl ?_;have d:=(KC.o.below hS KC.o.lt).cell 1;have dl:=(KC.o.below hS KC.o.lt).lt;simp at d;have HS:=yH hS;clear hS;go_wp2_with fail;all_goals first|exact HS|exact⟨rfl,HS⟩|rfl|exact⟨by omega,HS.o⟩
  case z16|z17|z18=>
   intro w' hS;refine yO rfl ?_;have d:=(HB.o.blk.below hS HB.o.blk.lt).cell 0;have dl:=(HB.o.blk.below hS HB.o.blk.lt).lt;simp at d;have HS:=yH hS;clear hS;go_wp2_with fail;all_goals first|exact HS|exact⟨rfl,HS⟩|rfl|exact⟨by omega,HS.o⟩
  case z19|z20|z21=>
   intro w' hS;refine yO rfl ?_;have d:=(HB.o.blk.below hS HB.o.blk.lt).cell 1;have dl:=(HB.o.blk.below hS HB.o.blk.lt).lt;simp at d;have HS:=yH hS;clear hS;go_wp2_with fail;all_goals first|exact HS|exact⟨rfl,HS⟩|rfl|exact⟨by omega,HS.o⟩
 simp only[yC,yA,yG];intro w' hS;refine yO rfl ?_;have kr:=KR2.o.below hS KR2.o.lt;refine wp_store_row 48 (.tmp 2) (.tmp 29) rfl w.heap.size #[.slice ap ps.length cp,.slice al ls.length cl,.slice ab l.length cb,.int .u64 N] rfl rfl 48 _ kr (by kernel_rfl) rfl (by simp[Value.oneCell']) ?_;refine⟨rfl,?_⟩;have kz:=setRow_heap w' w.heap.size _ #[.slice ap ps.length cp,.slice al ls.length cl,.slice ab l.length cb,.int .u64 N] 48 (0,0) kr;have kk:=aAq (w:=w') w.heap.size #[.slice ap ps.length cp,.slice al ls.length cl,.slice ab l.length cb,.int .u64 N];have s1:=pAG (aAw (aAc HL.o.p hS) kk (fun b hb e=>by have:=O1.o b hb;have:=HW.o;omega)) (by have:=H1.o;omega);have s2:=pAG (aAw (aAc HL.o.l hS) kk (fun b hb e=>by have:=O2.o b hb;have:=HW.o;omega)) (by have:=H2.o;omega);have s3:=pAG (aAw (aAc HB.o.row hS) kk (fun b hb e=>by have:=O3.o b hb;have:=HW.o;omega)) (by have:=H3.o;omega);have bz:=below_setRow (andB B2.o hS) yL #[.slice ap ps.length cp,.slice al ls.length cl,.slice ab l.length cb,.int .u64 N];have Z1:=yH s1;have Z2:=yH s2;have Z3:=yH s3;have BZ:=yH bz;have KZ:=yH kz;clear s1 s2 s3 bz kz kr kk hS;generalize w'.setRow w.heap.size #[.slice ap ps.length cp,.slice al ls.length cl,.slice ab l.length cb,.int .u64 N]=w9 at *
 try dsimp only
 go_wp2_with fail;refine bodyPost_ret (v:=.agg #[.slice ap ps.length cp,.slice al ls.length cl,.slice ab l.length cb,.int .u64 N]) (results_cell_row rfl _ _ w.heap.size 48 #[.slice ap ps.length cp,.slice al ls.length cl,.slice ab l.length cb,.int .u64 N] (0,0) _ rfl KZ.o Tryz.underlying48 rfl (by kernel_rfl)) rfl ?_;exact⟨_,_,_,rfl,⟨Z1.o,Z2.o,Z3.o⟩,BZ.o⟩
end Go.Proofs.YtngnfdnfpiiclaaGreat
namespace Go.Proofs.YtngnfdnfpiiclaaGreat
open Go.RowKit Go.ChangeShapes Go.WideShapes Go.Deep
theorem ln_of{cs:List Value}(h1:cs.length=5)(h:∀(j:Nat) (k:IntKind),([.u8,.u8,.u8,.i64,.i64]:List IntKind)[j]? = some k→∃n,cs[j]? = some (.int k n)∧(Lit.int k n).wf=true):∃x:Ln,x.Fits∧cs=x.vals:=by
 obtain⟨n0,e0,w0⟩:=h 0 _ rfl;obtain⟨n1,e1,w1⟩:=h 1 _ rfl;obtain⟨n2,e2,w2⟩:=h 2 _ rfl;obtain⟨n3,e3,w3⟩:=h 3 _ rfl;obtain⟨n4,e4,w4⟩:=h 4 _ rfl
 match cs,h1 with
 | [c0,c1,c2,c3,c4],_=>
  simp at e0 e1 e2 e3 e4;subst e0 e1 e2 e3 e4;exact⟨⟨n0,n1,n2,n3,n4⟩,⟨In8.of_wf w0,In8.of_wf w1,In8.of_wf w2,In64.of_wf w3,In64.of_wf w4⟩,rfl⟩
theorem line_kinds:∃fs,Tryz.prog.underlying 71=some (.struct fs)∧oneCellFields Tryz.prog fs=true∧∀(j:Nat) (k:IntKind),([.u8,.u8,.u8,.i64,.i64]:List IntKind)[j]? = some k→∃f,fs[j]? = some f∧Tryz.prog.underlying f.type=some (.int k):=by
 refine⟨_,Tryz.underlying71,by kernel_rfl,?_⟩;intro j k hj
 match j,hj with
 | 0,hj=>cases hj;exact⟨_,rfl,Tryz.underlying68⟩
 | 1,hj=>cases hj;exact⟨_,rfl,Tryz.underlying68⟩
 | 2,hj=>cases hj;exact⟨_,rfl,Tryz.underlying69⟩
 | 3,hj=>cases hj;exact⟨_,rfl,Tryz.underlying2⟩
 | 4,hj=>cases hj;exact⟨_,rfl,Tryz.underlying2⟩
 | j+5,hj=>simp at hj
section
variable{H:Type}{enc:TypeId×Value→H}{w:World}{base:Nat}{spare:Nat→Bool}{held:Bool}
theorem line_read{fuel:Nat}{cs:List Value}{x:DataW H×List MemPlace}(h:DataW.trod enc Tryz.prog w base spare held fuel 71 cs=some x):∃x:Ln,x.Fits∧cs=x.vals:=by
 obtain⟨fs,hu,ho,hk⟩:=line_kinds;have hC:Tryz.prog.cellsOf 71=5:=by kernel_rfl
 generalize Tryz.prog=P at *;obtain⟨h1,h2⟩:=nums_read (ks:=[.u8,.u8,.u8,.i64,.i64]) hu ho hC hk h;exact ln_of h1 h2
def aLa(w:World)(a:Option Addr)(len cap:Nat)(xs:List Ln):Prop:=
 (a=none→cap=0)∧xs.length=len∧(∀x∈xs,x.Fits)∧len≤cap∧cap≤maxLen∧(0<len→∃b off,a=some ⟨b,off,none⟩∧b<w.heap.size∧∀i (h:i<xs.length) (j:Nat) (v:Value),xs[i].vals[j]? = some v→w.cell? ⟨b,off+i*5+j,none⟩=some v)
theorem lines_open{a:Option Addr}{len cap:Nat}{d:DataW H}{p:List MemPlace}(h:DataW.Trod enc Tryz.prog w base spare held 42 (.slice a len cap) d p):∃xs,aLa w a len cap xs:=by
 obtain⟨fuel,hf⟩:=h;rcases open_slice Tryz.underlying42 hf with⟨h0,_⟩|⟨ad,l,c,m,n,D,Pl,hcs,hb,hl,hm,hmm,hx,hi⟩
 ·simp[Value.cells]at h0;obtain⟨rfl,rfl,rfl⟩:=h0;exact⟨[],fun _=>rfl,rfl,by simp,Nat.le_refl _,by unfold maxLen;omega,fun h=>by omega⟩
 simp[Value.cells]at hcs;obtain⟨rfl,rfl,rfl⟩:=hcs;have hC:Tryz.prog.cellsOf 71=5:=by kernel_rfl
 have hlm:len≤m:=by rw[hmm];split <;> omega
 have key:∀i,i<len→∃x:Ln,x.Fits∧∀(j:Nat) (v:Value),x.vals[j]? = some v→w.cell? ((ad.add (i*5)).add j)=some v:=by
  intro i hil;obtain⟨cs',hc,ht⟩:=hi i (by omega);rw[hC]at hc;obtain⟨x,hx,rfl⟩:=line_read ht;obtain⟨_,_,hat⟩:=World.cells?_some hc;refine⟨x,hx,fun j v hj=>?_⟩
  have hj5:j<5:=by
   have:=(List.getElem?_eq_some_iff.1 hj).1;exact this
  rw[hat j hj5,hj]
 have hex:∀k,k≤len→∃xs:List Ln,xs.length=k∧(∀x∈xs,x.Fits)∧∀i (h:i<xs.length) (j:Nat) (v:Value),xs[i].vals[j]? = some v→w.cell? ((ad.add (i*5)).add j)=some v:=by
  intro k
  induction k with
  | zero=>intro _;exact⟨[],rfl,by simp,fun i h=>by simp at h⟩
  | succ k ih=>
   intro hk;obtain⟨xs,h1,h2,h3⟩:=ih (by omega);obtain⟨x,hx,hxc⟩:=key k (by omega);refine⟨xs++[x],by simp[h1],?_,?_⟩
   ·intro y hy;rcases List.mem_append.1 hy with hy|hy
    ·exact h2 y hy
    rw[List.mem_singleton]at hy;rw[hy];exact hx
   intro i hi j v hv
   by_cases hik:i<xs.length
   ·rw[List.getElem_append_left hik]at hv;exact h3 i hik j v hv
   have:i=k:=by rw[List.length_append,List.length_singleton]at hi;omega
   subst this;rw[List.getElem_append_right (by omega)]at hv;simp[h1]at hv;exact hxc j v hv
 obtain⟨xs,h1,h2,h3⟩:=hex len yL;refine⟨xs,fun h=>(by cases h),h1,h2,hl,hm,fun hp=>?_⟩;have h00:=h3 0 (by omega) 0 _ rfl
 have hsp:ad.spot=none:=by
  rcases hs:ad.spot with _|s
  ·rfl
  exfalso;rw[Go.Deep.add_add]at h00;have e:(ad.add (0*5+0)).spot=ad.spot:=by cases ad;simp[Addr.add]
  unfold World.cell? at h00;rw[e,hs]at h00;split at h00
  ·simp at h00
  cases h00
 obtain⟨b,off,sp⟩:=ad;simp only at hsp;subst hsp
 have hcell:∀i (h:i<xs.length) (j:Nat) (v:Value),xs[i].vals[j]? = some v→w.cell? ⟨b,off+i*5+j,none⟩=some v:=by
  intro i hi j v hv;have:=h3 i hi j v hv;rw[Go.Deep.add_add,Go.WideShapes.add_plain]at this;rw[Nat.add_assoc];exact this
 exact⟨b,off,rfl,World.block_lt_of_cell? _ _ (hcell 0 (by omega) 0 _ rfl),hcell⟩
end
theorem aLa.reads{w:World}{a:Option Addr}{len cap:Nat}{xs:List Ln}(h:aLa w a len cap xs)(hn:len≤100000000):aAs w (.slice a xs.length cap) 5 xs.length (aAd xs):=by
 obtain⟨h0,h1,h2,h3,h4,h5⟩:=h;subst h1;refine⟨a,cap,rfl,hn,aBa xs,fun hp=>?_⟩;obtain⟨b,off,rfl,hlt,hc⟩:=h5 hp;refine⟨b,off,rfl,hlt,fun j hj=>?_⟩;have hi:j/5<xs.length:=by omega
 have hm:j%5<5:=Nat.mod_lt _ (by decide);have e:j=j/5*5+j%5:=by omega
 have hv:xs[j/5].vals[j%5]? = some (xs[j/5].vals[j%5]'(by rw[Ln.vals_len];omega)):=List.getElem?_eq_getElem _;have:=hc (j/5) hi (j%5) _ hv;rw[Nat.add_assoc,←e]at this;rw[this,←hv,←aAp xs (j/5) (j%5) hm hi,←e]
theorem reads_row{w:World}{a:Option Addr}{len cap:Nat}{zs:List Int}(h:IsRow .u8 w a len cap zs)(hn:len≤100000000):∃xs:List Int,xs.length=len∧(a=none→cap=0)∧(∀p∈xs,In8 p)∧aAs w (.slice a xs.length cap) 1 xs.length (xs.map (.int .u8)):=by
 rcases h with⟨rfl,rfl,rfl,rfl⟩|⟨x,rfl,hl,hm,hz,hc,hw⟩
 ·exact⟨[],rfl,fun _=>rfl,by simp,none,0,rfl,by simp,by simp,fun h=>by simp at h⟩
 have hxl:(zs.take len).length=len:=by rw[List.length_take];omega
 refine⟨zs.take len,hxl,fun h=>(by cases h),fun p hp=>In8.of_wf (hw p (List.mem_of_mem_take hp)),some x,cap,rfl,by omega,by simp,fun hp=>?_⟩;rw[hxl]at hp;have h0:=hc 0 (by omega)
 have hsp:x.spot=none:=by
  rcases hs:x.spot with _|s
  ·rfl
  exfalso;have e:(x.add 0).spot=x.spot:=by cases x;simp[Addr.add]
  unfold World.cell? at h0;rw[e,hs]at h0;split at h0
  ·simp at h0
  cases h0
 obtain⟨b,off,sp⟩:=x;simp only at hsp;subst hsp;refine⟨b,off,rfl,?_,fun j hj=>?_⟩
 ·have:=World.block_lt_of_cell? _ _ h0;simpa [Addr.add]using this
 rw[hxl]at hj;have h1:=hc j (by omega);rw[Go.WideShapes.add_plain]at h1;rw[h1,List.getElem?_map,List.getElem?_take_of_lt (by omega),List.getD_eq_getElem?_getD,List.getElem?_eq_getElem (by omega:j<zs.length)];rfl
end Go.Proofs.YtngnfdnfpiiclaaGreat
namespace Go.Proofs.YtngnfdnfpiiclaaGreat
open Go.RowKit Go.ChangeShapes Go.WideShapes Go.Deep Go.ChangeAt
structure Sx where
 a0:Option Addr
 n0:Nat
 c0:Nat
 zs:List Int
 a1:Option Addr
 n1:Nat
 c1:Nat
 ls:List Ln
 a2:Option Addr
 n2:Nat
 c2:Nat
 l:List Of
 N:Int
def Sx.vals(x:Sx):List Value:=[.slice x.a0 x.n0 x.c0,.slice x.a1 x.n1 x.c1,.slice x.a2 x.n2 x.c2,.int .u64 x.N]
def Sx.val(x:Sx):Value:=.agg #[.slice x.a0 x.n0 x.c0,.slice x.a1 x.n1 x.c1,.slice x.a2 x.n2 x.c2,.int .u64 x.N]
structure Sx.In(w:World)(x:Sx):Prop where
 p:IsRow .u8 w x.a0 x.n0 x.c0 x.zs
 l:aLa w x.a1 x.n1 x.c1 x.ls
 o:SlIn Of.vals 7 Of.Fits w x.a2 x.n2 x.c2 x.l
 n:0≤x.N∧x.N≤18446744073709551615
section
variable{H:Type}{enc:TypeId×Value→H}{w:World}{base:Nat}{held:Bool}
theorem isrow_of{n:Nat}{a:Option Addr}{len cap:Nat}{y:DataW H×List MemPlace}(h:DataW.trod enc Tryz.prog w base (fun _=>true) held n 41 [.slice a len cap]=some y):∃zs,IsRow .u8 w a len cap zs:=by
 rcases open_ints Tryz.underlying41 Tryz.underlying68 (by kernel_rfl) h with⟨hcs,_⟩|⟨x,l,c,zs,hcs,_,hl,hm,hz,_,hcell,hwz⟩
 ·simp at hcs;obtain⟨rfl,rfl,rfl⟩:=hcs;exact⟨[],.inl ⟨rfl,rfl,rfl,rfl⟩⟩
 simp at hcs;obtain⟨rfl,rfl,rfl⟩:=hcs;exact⟨zs,.inr ⟨_,rfl,hl,hm,by simpa using hz,hcell,hwz⟩⟩
theorem aOb{fuel:Nat}{cs:List Value}{x:DataW H×List MemPlace}(h:DataW.trod enc Tryz.prog w base (fun _=>true) held fuel 46 cs=some x):∃x:Sx,x.In w∧cs=x.vals:=by
 obtain⟨xs,n,_,_,hlen,hxl,hf⟩:=DataW.trod_struct Tryz.underlying46 h;rw[show Tryz.prog.cellsOf 46=4 by kernel_rfl]at hlen;obtain⟨m9,e9,w9⟩:=aHc hxl hf (j:=3) rfl rfl (by kernel_rfl) Tryz.underlying44 (by rw[hlen];decide);have h0:=hf 0 _ rfl;have h1:=hf 1 _ rfl;have h2:=hf 2 _ rfl;rw[List.getElem?_eq_getElem (by rw[hxl];simp:0<xs.length)]at h0;rw[List.getElem?_eq_getElem (by rw[hxl];simp:1<xs.length)]at h1;rw[List.getElem?_eq_getElem (by rw[hxl];simp:2<xs.length)]at h2
 match cs,hlen with
 | [v0,v1,v2,v3],_=>
  simp at e9;subst e9
  replace h0:DataW.trod enc Tryz.prog w base (fun _=>true) held n 41 [v0]=some (xs[0]'(by rw[hxl];simp)):=h0
  replace h1:DataW.trod enc Tryz.prog w base (fun _=>true) held n 42 [v1]=some (xs[1]'(by rw[hxl];simp)):=h1
  replace h2:DataW.trod enc Tryz.prog w base (fun _=>true) held n 43 [v2]=some (xs[2]'(by rw[hxl];simp)):=h2
  obtain⟨a0,n0,c0,rfl⟩:=aG5 Tryz.underlying41 h0;obtain⟨a1,n1,c1,rfl⟩:=aG5 Tryz.underlying42 h1;obtain⟨a2,n2,c2,rfl⟩:=aG5 Tryz.underlying43 h2;obtain⟨zs,hz⟩:=isrow_of h0;obtain⟨ls,hl⟩:=lines_open (a:=a1) (len:=n1) (cap:=c1) ⟨n,h1⟩;obtain⟨l,ho⟩:=aM9 (a:=a2) (len:=n2) (cap:=c2) ⟨n,h2⟩;exact⟨⟨a0,n0,c0,zs,a1,n1,c1,ls,a2,n2,c2,l,m9⟩,⟨hz,hl,ho,InU64.of_wf w9⟩,rfl⟩
theorem aOc{r:Reach}{b0:Nat}{v:Value}{d:DataW H}{p:List MemPlace}(hv:Value.okWide Tryz.prog w r b0 46 v)(h:DataW.Trod enc Tryz.prog w base (fun _=>true) held 46 v d p):
  ∃x:Sx,v=x.val∧x.In w:=by
 obtain⟨cs,rfl,_⟩:=okWide_struct Tryz.underlying46 hv;obtain⟨fuel,hf⟩:=h;obtain⟨x,hx,hc⟩:=aOb hf;refine⟨x,?_,hx⟩;have:cs.toList=x.vals:=by simpa [Value.cells]using hc
 rw[show cs=x.vals.toArray by rw[←this]];rfl
end
end Go.Proofs.YtngnfdnfpiiclaaGreat
namespace Go.Proofs.YtngnfdnfpiiclaaGreat
open Go.RowKit
theorem aEj.below{w w':World}{σ:Hs}{vp vl vo:Value}(h:aEj w σ vp vl vo)(k:Below w.heap.size w w'):aEj w' σ vp vl vo:=⟨h.p.below k,h.l.below k,h.o.below k⟩
theorem HInv.lens{σ:Hs}(h:HInv σ):σ.ps.length≤100000000∧σ.ls.length≤100000000∧σ.l.length≤100000000:=by
 have h1:=aK2 h.li.bd h.li.rise;have h2:=aGr σ.ps 0 17;rw[h1]at h2;have h3:=h.li.len;have h4:=h.bi.len;omega
theorem aLb{ao:Option Addr}{cap:Nat}{l:List Int}(mark:Int){w:World}(hr:aAs w (.slice ao l.length cap) 1 l.length (l.map (.int .u8)))(h0:ao=none→cap=0):
  Calls Tryz.prog 62 #[.slice ao l.length cap,.int .u8 mark] w (aE7 w 68 1 l.length (l.map (.int .u8)) [.int .u8 mark,.int .u8 mark]):=by
 obtain⟨i0,hi,hz0,hz1,hz2⟩:=info_parts aFa;have HR:=yH hr;have HN:=yH (hr.ofNone h0);have hl:l.length≤100000000:=by obtain⟨_,_,_,h,_⟩:=hr;exact h
 clear hr h0;go_enter Tryz.func62,Tryz.ntmps62;go_wp2_with (at_make;refine wpList_make_own _ rfl _ _ 41 rfl w.heap.size 68 i0 (.int .u8 0) 1 Tryz.underlying41 hi hz0 hz1 _ _ _ (l.length+2) rfl rfl (by first|omega|go_num|(simp;omega)) (by rw[hz2];omega) (by unfold maxLen;omega) yL ?_);intro w1 hown1 hgrow1;have b1:=(Below.refl w.heap.size w).grown hgrow1 yL (fun k h=>by cases h);have HA1:=yH (HR.o.below b1);go_wp2_with (at_builtin;refine wpList_append_fits_any _ rfl (.tmp 10) (.tmp 11) 41 rfl w.heap.size 68 i0 1 Tryz.underlying41 hi hz1 w.heap.size 0 (l.length+2) _ rfl hown1 _ _ _ (l.map (Value.int .u8)) rfl (by simp) HN.o HA1.o.src (ints_oneCell _ _) (by omega) ?_);intro w2 hown2 hgrow2;have b2:=b1.grown hgrow2 b1.size (fun k h=>by cases h;exact Nat.le_refl _);go_wp2_with (at_builtin;refine wpList_append_fits _ rfl (.tmp 13) (.tmp 16) 41 rfl w.heap.size 68 i0 1 Tryz.underlying41 hi hz1 w.heap.size l.length (l.length+2) _ rfl (hown2.alloc _) ⟨w2.heap.size,0,none⟩ 2 2 [.int .u8 mark,.int .u8 mark] rfl rfl (by intro j u hj;match j,hj with|0,hj=>(simp at hj;subst hj;simp[Addr.add])|1,hj=>(simp at hj;subst hj;simp[Addr.add])) (ints_oneCell .u8 [mark,mark]) (by omega) ?_);intro w3 hown3 hgrow3;have b3:Below w.heap.size w w3:=(b2.alloc b2.size _).grown hgrow3 (by simp;have:=b2.size;omega) (fun k h=>by cases h;exact Nat.le_refl _);have H3:=yH (show aBd w3 w.heap.size w.heap.size 68 1 l.length (l.map (.int .u8)) [.int .u8 mark,.int .u8 mark] by unfold aBd;simpa using hown3);clear hown1 hown2 hown3;go_wp2;go_ret;exact⟨w.heap.size,rfl,Nat.le_refl _,H3.o,b3⟩
theorem aLc{base g:Nat}{v:Value}{l m:List Int}{mark:Int}{w:World}(hl:l.length≤100000000)(ht:aBd w base g 68 1 l.length (l.map (.int .u8)) [.int .u8 mark,.int .u8 mark])(hr:aAs w v 1 m.length (m.map (.int .u8))):
  Calls Tryz.prog 71 #[.slice (some ⟨g,0,none⟩) l.length (l.length+2),v,.int .u8 mark] w (yR w (.bool (decide (l=m)))):=by
 have hs:=yH (aF5 (ht.reads hl (by simp)) hr);have hlt:=ht.cells.1;have m1:=ht.cells.2 l.length (by omega);have m2:=ht.cells.2 (l.length+1) (by omega);rw[List.getElem?_append_right (by simp)]at m1 m2;simp at m1 m2;obtain⟨ao,cap,rfl,_⟩:=hr;clear ht;go_enter Tryz.func71,Tryz.ntmps71;go_wp2_with fail;refine hs.out.mono ?_;rintro e w1 ⟨rfl,b1⟩
 by_cases he:l=m
 ·subst he;have n1:w1.cell? ⟨g,l.length,none⟩=some (.int .u8 mark):=by rw[b1.cell (p:=⟨g,l.length,none⟩) hlt];exact m1
  have n2:w1.cell? ⟨g,l.length+1,none⟩=some (.int .u8 mark):=by rw[b1.cell (p:=⟨g,l.length+1,none⟩) hlt];exact m2
  rw[decide_eq_true rfl];go_wp2;go_ret;exact⟨rfl,b1⟩
 rw[decide_eq_false he];go_wp2;go_ret;exact⟨by rw[decide_eq_false he];rfl,b1⟩
theorem aI7{ao:Option Addr}{cap:Nat}{l:List Int}{w:World}(hr:aAs w (.slice ao l.length cap) 1 l.length (l.map (.int .u8)))(h0:ao=none→cap=0):
  Calls Tryz.prog 29 #[.slice ao l.length cap] w (aE7 w 68 1 l.length (l.map (.int .u8)) [.int .u8 195,.int .u8 195]):=by
 have c:=yH (aLb 195 hr h0);clear hr h0;go_enter Tryz.func29,Tryz.ntmps29;go_wp2_with fail;refine c.out.mono ?_;rintro e w' ⟨g,rfl,h1,h2,h3⟩;have T:=yH h2;clear h2;go_wp2;go_ret;exact⟨g,rfl,h1,T.o,h3⟩
theorem aE1{base g:Nat}{v:Value}{l m:List Int}{w:World}(hl:l.length≤100000000)(ht:aBd w base g 68 1 l.length (l.map (.int .u8)) [.int .u8 195,.int .u8 195])(hr:aAs w v 1 m.length (m.map (.int .u8))):
  Calls Tryz.prog 34 #[.slice (some ⟨g,0,none⟩) l.length (l.length+2),v] w (yR w (.bool (decide (l=m)))):=by
 have c:=yH (aLc hl ht hr);clear ht hr;go_enter Tryz.func34,Tryz.ntmps34;go_wp2_with fail;refine c.out.mono ?_;rintro e w' ⟨rfl,h⟩;go_wp2;go_ret;exact⟨rfl,h⟩
theorem aE2(l:List Ln):∀u∈aAd l,u.oneCell'=true:=by
 intro u hu;unfold aAd at hu;obtain⟨x,_,hx⟩:=List.mem_flatMap.1 hu;simp[Ln.vals]at hx;rcases hx with rfl|rfl|rfl|rfl|rfl <;> rfl
theorem aMp{ao:Option Addr}{cap:Nat}{l:List Ln}(x:Ln){w:World}(hr:aAs w (.slice ao l.length cap) 5 l.length (aAd l))(h0:ao=none→cap=0):
  Calls Tryz.prog 63 #[.slice ao l.length cap,.agg #[.int .u8 x.cr,.int .u8 x.de,.int .u8 x.cu,.int .i64 x.li,.int .i64 x.db]] w (aE7 w 71 5 l.length (aAd l) (aAd [x,x])):=by
 obtain⟨i0,hi,hz0,hz1,hz2⟩:=info_parts aEv;have HR:=yH hr;have HX:=yH (Blk.new w #[.int .u8 x.cr,.int .u8 x.de,.int .u8 x.cu,.int .i64 x.li,.int .i64 x.db] 71);have HN:=yH (hr.ofNone h0);have hl:l.length≤100000000:=by obtain⟨_,_,_,h,_⟩:=hr;exact h
 have bx:=(Below.refl w.heap.size w).alloc yL (.cells #[.int .u8 x.cr,.int .u8 x.de,.int .u8 x.cu,.int .i64 x.li,.int .i64 x.db] 71);clear hr h0;go_enter Tryz.func63,Tryz.ntmps63;go_wp2_with (at_make;refine wpList_make_own _ rfl _ _ 42 rfl (w.heap.size+1) 71 i0 noLn.val 5 Tryz.underlying42 hi hz0 hz1 _ _ _ (l.length+2) rfl rfl (by first|omega|go_num|(simp;omega)) (by rw[hz2];omega) (by unfold maxLen;omega) (by simp) ?_);intro w1 hown1 hgrow1;have X1:=yH (HX.o.grown hgrow1 (by simp));have b1:Below w.heap.size w w1:=bx.grown hgrow1 (by simp) (fun k h=>by cases h);have HA1:=yH (HR.o.below b1);go_wp2_with (at_builtin;refine wpList_append_fits_any _ rfl (.tmp 10) (.tmp 11) 42 rfl (w.heap.size+1) 71 i0 5 Tryz.underlying42 hi hz1 (w.heap.size+1) 0 (l.length+2) _ rfl hown1 _ _ _ (aAd l) rfl (aBa l) HN.o HA1.o.src (aE2 l) (by omega) ?_);intro w2 hown2 hgrow2;have b2:=b1.grown hgrow2 b1.size (fun k h=>by cases h;omega);have hX2:=X1.o.grown hgrow2 (by simp);have x0:=hX2.cell 0;have x1:=hX2.cell 1;have x2:=hX2.cell 2;have x3:=hX2.cell 3;have x4:=hX2.cell 4;simp at x0 x1 x2 x3 x4;have hxl:=hX2.lt;clear hX2;go_wp2_with (at_builtin;refine wpList_append_fits _ rfl (.tmp 13) (.tmp 16) 42 rfl (w.heap.size+1) 71 i0 5 Tryz.underlying42 hi hz1 (w.heap.size+1) l.length (l.length+2) _ (by simp[go_sem]) (hown2.alloc _) ⟨w2.heap.size,0,none⟩ 2 2 (aAd [x,x]) rfl rfl ?_ (aE2 [x,x]) (by omega) ?_)
 ·intro j u hj;rw[Go.WideShapes.add_plain,Nat.zero_add];refine((Blk.new w2 _ 71).cell j).trans ?_;simpa [aAd,Ln.vals]using hj
 intro w3 hown3 hgrow3;have b3:Below w.heap.size w w3:=(b2.alloc b2.size _).grown hgrow3 (by simp;have:=b2.size;omega) (fun k h=>by cases h;omega);have H3:=yH (show aBd w3 w.heap.size (w.heap.size+1) 71 5 l.length (aAd l) (aAd [x,x])from aBo (by simpa using hown3) (Nat.le_succ _));clear hown1 hown2 hown3;go_wp2;go_ret;exact⟨w.heap.size+1,rfl,Nat.le_succ _,H3.o,b3⟩
theorem aMq{base g:Nat}{v:Value}{l m:List Ln}{x:Ln}{w:World}(hl:l.length≤10000000)(ht:aBd w base g 71 5 l.length (aAd l) (aAd [x,x]))(hr:aAs w v 5 m.length (aAd m)):
  Calls Tryz.prog 72 #[.slice (some ⟨g,0,none⟩) l.length (l.length+2),v,.agg #[.int .u8 x.cr,.int .u8 x.de,.int .u8 x.cu,.int .i64 x.li,.int .i64 x.db]] w (yR w (.bool (decide (l=m)))):=by
 have HR:=yH hr;have HT:=yH (ht.reads (by omega) (aBa l));have b0:=(Below.refl w.heap.size w).alloc yL (.cells #[.int .u8 x.cr,.int .u8 x.de,.int .u8 x.cu,.int .i64 x.li,.int .i64 x.db] 71);have hs:=yH (aG7 (HT.o.below b0) (HR.o.below b0));have B0:=yH b0;have KX:=yH (Blk.new w #[.int .u8 x.cr,.int .u8 x.de,.int .u8 x.cu,.int .i64 x.li,.int .i64 x.db] 71);have hg:=ht.cells.1
 have MC:Hid (∀j,j<10→w.cell? ⟨g,l.length*5+j,none⟩=(aAd [x,x])[j]?):=yH fun j hj=>by
  have:=ht.cells.2 (l.length*5+j) (by omega)
  rwa [List.getElem?_append_right (by rw[aBa];omega),aBa,Nat.add_sub_cancel_left]at this
 obtain⟨ao,cap,rfl,_⟩:=hr;clear ht b0 HT HR;go_enter Tryz.func72,Tryz.ntmps72;go_wp2_with fail;refine hs.out.mono ?_;rintro e w1 ⟨rfl,b1⟩;have B1:=yT B0 b1;have KX1:=yB KX b1;clear b1 B0 KX hs
 by_cases he:l=m
 ·subst he;have hg1:g<w1.heap.size:=yM hg B1.o.size;have M1:Hid (∀j,j<10→w1.cell? ⟨g,l.length*5+j,none⟩=(aAd [x,x])[j]?):=yH fun j hj=>(B1.o.cell (p:=⟨g,l.length*5+j,none⟩) hg).trans (MC.o j hj)
  have m0:w1.cell? ⟨g,l.length*5,none⟩=some (.int .u8 x.cr):=M1.o 0 (by omega);have m1:w1.cell? ⟨g,l.length*5+1,none⟩=some (.int .u8 x.de):=M1.o 1 (by omega);have m2:w1.cell? ⟨g,l.length*5+2,none⟩=some (.int .u8 x.cu):=M1.o 2 (by omega);have m3:w1.cell? ⟨g,l.length*5+3,none⟩=some (.int .i64 x.li):=M1.o 3 (by omega);have m4:w1.cell? ⟨g,l.length*5+4,none⟩=some (.int .i64 x.db):=M1.o 4 (by omega);have n0:w1.cell? ⟨g,l.length*5+5,none⟩=some (.int .u8 x.cr):=M1.o 5 (by omega);have n1:w1.cell? ⟨g,l.length*5+5+1,none⟩=some (.int .u8 x.de):=M1.o 6 (by omega);have n2:w1.cell? ⟨g,l.length*5+5+2,none⟩=some (.int .u8 x.cu):=M1.o 7 (by omega);have n3:w1.cell? ⟨g,l.length*5+5+3,none⟩=some (.int .i64 x.li):=M1.o 8 (by omega);have n4:w1.cell? ⟨g,l.length*5+5+4,none⟩=some (.int .i64 x.db):=M1.o 9 (by omega);have k0:=KX1.o.cell 0;have k1:=KX1.o.cell 1;have k2:=KX1.o.cell 2;have k3:=KX1.o.cell 3;have k4:=KX1.o.cell 4;have kl:=KX1.o.lt;simp at k0 k1 k2 k3 k4;rw[decide_eq_true rfl];clear M1 MC;go_wp2_with fail;rw[show l.length+2 - l.length=2 by omega]
  go_quiet (fail)
  all_goals
   go_wp2_with fail;go_ret;exact⟨rfl,below_drewN B1.o _⟩
 rw[decide_eq_false he];go_wp2;go_ret;exact⟨by rw[decide_eq_false he];rfl,B1.o⟩
theorem aLd{ao:Option Addr}{cap:Nat}{l:List Ln}{w:World}(hr:aAs w (.slice ao l.length cap) 5 l.length (aAd l))(h0:ao=none→cap=0):
  Calls Tryz.prog 30 #[.slice ao l.length cap] w (aE7 w 71 5 l.length (aAd l) (aAd [⟨0,0,0,-77,0⟩,⟨0,0,0,-77,0⟩])):=by
 have c:=yH (aMp ⟨0,0,0,-77,0⟩ hr h0);clear hr h0;dsimp only at c;go_enter Tryz.func30,Tryz.ntmps30;go_wp2_with fail;refine c.out.mono ?_;rintro e w' ⟨g,rfl,h1,h2,h3⟩;have T:=yH h2;clear h2;go_wp2;go_ret;exact⟨g,rfl,h1,T.o,h3⟩
theorem aGn{base g:Nat}{v:Value}{l m:List Ln}{w:World}(hl:l.length≤10000000)(ht:aBd w base g 71 5 l.length (aAd l) (aAd [⟨0,0,0,-77,0⟩,⟨0,0,0,-77,0⟩]))(hr:aAs w v 5 m.length (aAd m)):
  Calls Tryz.prog 35 #[.slice (some ⟨g,0,none⟩) l.length (l.length+2),v] w (yR w (.bool (decide (l=m)))):=by
 have c:=yH (aMq hl ht hr);clear ht hr;dsimp only at c;go_enter Tryz.func35,Tryz.ntmps35;go_wp2_with fail;refine c.out.mono ?_;rintro e w' ⟨rfl,h⟩;go_wp2;go_ret;exact⟨rfl,h⟩
theorem aBd.blk{w:World}{base g:Nat}{e:TypeId}{size n:Nat}{xs marks:List Value}(h:aBd w base g e size n xs marks):∃cs:Array Value,Blk w g cs e∧n*size≤cs.size:=by
 obtain⟨_,h2⟩:=h;rcases h2 with⟨hv,_⟩|⟨g',cap,cur,hv,_,hg,hc,_,hs,_⟩
 ·cases hv
 cases hv
 refine⟨cur,hg,?_⟩;rw[hs];exact Nat.mul_le_mul_right _ (by omega)
theorem aLe{w:World}{σ:Hs}{vp vl vo up ul uo:Value}(ha:aEj w σ vp vl vo)(hb:aEj w σ up ul uo):
  Calls Tryz.prog 20 #[.agg #[vp,vl,vo,.int .u64 σ.N],.agg #[up,ul,uo,.int .u64 σ.N]] w (yR w (.bool true)):=by
 have b1:=(Below.refl w.heap.size w).alloc yL (.cells #[vp,vl,vo,.int .u64 σ.N] 46);have b2:=b1.alloc b1.size (.cells #[up,ul,uo,.int .u64 σ.N] 48);have KA:=yH ((Blk.new w #[vp,vl,vo,.int .u64 σ.N] 46).alloc (.cells #[up,ul,uo,.int .u64 σ.N] 48));have KB:=yH (pAB (w.alloc (.cells #[vp,vl,vo,.int .u64 σ.N] 46)) #[up,ul,uo,.int .u64 σ.N] 48 (g:=w.heap.size+1) (by simp));have B2:=yH b2;have HA:=yH ha;have HB:=yH hb;clear ha hb b1 b2;go_enter Tryz.func20,Tryz.ntmps20
 go_upto_region 1 with fail
 generalize (w.alloc (.cells #[vp,vl,vo,.int .u64 σ.N] 46)).alloc (.cells #[up,ul,uo,.int .u64 σ.N] 48)=W at *;have x0:=KA.o.cell 0;have x1:=KA.o.cell 1;have x2:=KA.o.cell 2;have x3:=KA.o.cell 3;have xl:=KA.o.lt;have y0:=KB.o.cell 0;have y1:=KB.o.cell 1;have y2:=KB.o.cell 2;have y3:=KB.o.cell 3;have yl:=KB.o.lt;simp at x0 x1 x2 x3 y0 y1 y2 y3;go_wp2_with fail;refine(aI3 (HA.o.p.below B2.o) (HB.o.p.below B2.o)).mono ?_;rintro e w1 ⟨rfl,b1⟩;rw[decide_eq_true rfl];have KA1:=yB KA b1;have KB1:=yB KB b1;have B1:=yT B2 b1;clear x0 x1 x2 x3 xl y0 y1 y2 y3 yl b1 KA KB;have x1:=KA1.o.cell 1;have x2:=KA1.o.cell 2;have x3:=KA1.o.cell 3;have xl:=KA1.o.lt;have y1:=KB1.o.cell 1;have y2:=KB1.o.cell 2;have y3:=KB1.o.cell 3;have yl:=KB1.o.lt;simp at x1 x2 x3 y1 y2 y3;go_wp2_with fail;refine(aK4 (HA.o.l.below B1.o) (HB.o.l.below B1.o)).mono ?_;rintro e w2 ⟨rfl,b2⟩;rw[decide_eq_true rfl];have KA2:=yB KA1 b2;have KB2:=yB KB1 b2;have B3:=yT B1 b2;clear x1 x2 x3 xl y1 y2 y3 yl b2 KA1 KB1;have x2:=KA2.o.cell 2;have x3:=KA2.o.cell 3;have xl:=KA2.o.lt;have y2:=KB2.o.cell 2;have y3:=KB2.o.cell 3;have yl:=KB2.o.lt;simp at x2 x3 y2 y3;go_wp2_with fail;refine(aJf (HA.o.o.below B3.o) (HB.o.o.below B3.o)).mono ?_;rintro e w3 ⟨rfl,b3⟩;rw[decide_eq_true rfl];have KA3:=yB KA2 b3;have KB3:=yB KB2 b3;have B4:=yT B3 b3;clear x2 x3 xl y2 y3 yl b3 KA2 KB2;have x3:=KA3.o.cell 3;have xl:=KA3.o.lt;have y3:=KB3.o.cell 3;have yl:=KB3.o.lt;simp at x3 y3;have qn:(σ.N==σ.N)=true:=by simp
 go_wp2_with fail;go_ret;exact⟨rfl,B4.o⟩
def SpAt(Is:World→Nat→Hs→Prop)(w:World)(n size gb:Nat)(ty:TypeId)(gx nx:Nat)(tx:TypeId)(t:Nat)(cs0:Array Value)(m base k rl rb:Nat)(σ:Hs)(vp vl vb:Value)(i:Value)(wr:World):Prop:=
 ∃(j:Nat) (cs:Array Value),j≤n∧i=.int .i64 j∧Blk wr gb cs ty∧n*size≤cs.size∧(∃cx:Array Value,Blk wr gx cx tx∧nx≤cx.size)∧Blk wr t cs0 46∧Is wr m σ∧RM wr base k rl rb σ vp vl vb∧Below w.heap.size w wr
theorem RM.keep{S:Nat→Prop}{w w':World}{base k rl rb:Nat}{σ:Hs}{vp vl vb:Value}(h:RM w base k rl rb σ vp vl vb)(kk:Keep S w w')(hs:∀b,base≤b→¬S b):RM w' base k rl rb σ vp vl vb:=by
 obtain⟨h1,h2,h3,h4⟩:=h;refine⟨h1.keep kk (hs _ h2),h2,h3.keep kk (hs _ h3.ge) (fun b hb=>hs b (aAn h3.p hb).1) (fun b hb=>hs b (aAn h3.l hb).1),h4.keep kk (hs _ h4.ge) (fun b hb=>hs b (aAn h4.row hb).1)⟩
theorem RM.below{w w':World}{base k rl rb:Nat}{σ:Hs}{vp vl vb:Value}(h:RM w base k rl rb σ vp vl vb)(b:Below w.heap.size w w'):RM w' base k rl rb σ vp vl vb:=h.keep (pAD (S:=fun _=>False) b) (fun _ _=>id)
theorem SpAt.set{Is:World→Nat→Hs→Prop}(MP:aFf (fun s=>s.kd=1∨s.kd=2∨s.kd=3∨s.kd=8∨s.kd=9) Is){w wr:World}{n size gb gx nx t m base k rl rb j:Nat}{ty tx:TypeId}{cs0 cs:Array Value}{σ:Hs}{vp vl vb:Value}(hj:j<n)(h1:Blk wr gb cs ty)(hty:ty=71∨ty=75)(h2:n*size≤cs.size)(h3:∃cx:Array Value,Blk wr gx cx tx∧nx≤cx.size)
  (h4:Blk wr t cs0 46)(h5:Is wr m σ)(h6:RM wr base k rl rb σ vp vl vb)(h7:Below w.heap.size w wr)(o:Nat)(v:Value)(hx:gx≠gb)(ht:t≠gb)(hb:gb<base)(hw:w.heap.size≤gb){i:Value}(hi:i=.int .i64 ((j+1:Nat):Int)):
  SpAt Is w n size gb ty gx nx tx t cs0 m base k rl rb σ vp vl vb i (wr.setCell ⟨gb,o,none⟩ v):=by
 have kk:=(Keep.refl (·=gb) wr).setCell (p:=⟨gb,o,none⟩) (.inl rfl) v;obtain⟨cx,hcx,hnx⟩:=h3;refine⟨j+1,cs.setIfInBounds o v,hj,hi,h1.set o v,by simpa using h2,⟨cx,hcx.keep kk hx,hnx⟩,h4.keep kk ht,MP.rows h5 kk (fun b hb'=>⟨cs,ty,by cases hb';exact h1,?_⟩),h6.keep kk (fun b hb' e=>by omega),h7.trans (kk.below h7.size (fun b hb' e=>by omega))⟩;rcases hty with rfl|rfl
 ·exact .inr (.inl rfl)
 exact .inr (.inr (.inl rfl))
theorem machof_big(HL:aI6)(a0:Option Addr)(n0 c0:Nat)(a1:Option Addr)(n1 c1:Nat)(a2:Option Addr)(n2 c2:Nat)(N:Int)(w:World)(hg:30<n0∨100<n1∨50<n2):
  Calls Tryz.prog 4 #[.agg #[.slice a0 n0 c0,.slice a1 n1 c1,.slice a2 n2 c2,.int .u64 N]] w (yR w (.bool true)):=by
 have LV:=yH HL;have b1:=(Below.refl w.heap.size w).alloc yL (.cells #[.slice a0 n0 c0,.slice a1 n1 c1,.slice a2 n2 c2,.int .u64 N] 46);have KX:=yH (Blk.new w #[.slice a0 n0 c0,.slice a1 n1 c1,.slice a2 n2 c2,.int .u64 N] 46);have BB:=yH b1;clear b1 HL;obtain⟨d0,q0⟩:∃b,decide (30<(n0:Int))=b:=⟨_,rfl⟩;obtain⟨d1,q1⟩:∃b,decide (100<(n1:Int))=b:=⟨_,rfl⟩;obtain⟨d2,q2⟩:∃b,decide (50<(n2:Int))=b:=⟨_,rfl⟩;have hd:Hid (d0=true∨d1=true∨d2=true):=yH (by rw[←q0,←q1,←q2];simp;omega);clear hg;go_enter Tryz.func4,Tryz.ntmps4
 go_upto_region 1 with fail
 generalize w.alloc (.cells #[.slice a0 n0 c0,.slice a1 n1 c1,.slice a2 n2 c2,.int .u64 N] 46)=W at *;have x0:=KX.o.cell 0;have x1:=KX.o.cell 1;have x2:=KX.o.cell 2;have xl:=KX.o.lt;simp at x0 x1 x2
 cases d0 <;> cases d1 <;> cases d2
 ·exact absurd hd.out (by simp)
 all_goals
  go_wp2_with fail;refine(LV.o _).mono ?_;rintro e wl ⟨rfl,bl⟩;go_wp2_with fail;go_ret;exact⟨rfl,andB BB.o bl⟩
open Classical in
theorem hinv_of{σ:Hs}(h:mofE σ=0)(hfo:∀x∈σ.l,x.Fits)(h0:0≤σ.N)(h1:σ.N≤18446744073709551615):HInv σ:=by
 unfold mofE at h
 by_cases c1:okP σ.ps
 ·rw[if_neg (fun q=>q c1)]at h
  by_cases c2:64<σ.ls.length
  ·rw[if_pos c2]at h;cases h
  rw[if_neg c2]at h
  by_cases c3:okL σ.ps σ.ls
  ·rw[if_neg (fun q=>q c3)]at h
   by_cases c4:32<σ.l.length
   ·rw[if_pos c4]at h;cases h
   rw[if_neg c4]at h
   by_cases c5:okO σ.N σ.l∧σ.N≠0
   ·rw[if_neg (fun q=>q c5)]at h
    by_cases c6:∃o∈σ.l,o.ow∉σ.ps
    ·rw[if_pos c6]at h;cases h
    exact⟨c1.linv c3 (by omega),c5.1.binv c5.2 h0 h1 (by omega) hfo,fun o ho=>Decidable.by_contra fun q=>c6 ⟨o,ho,q⟩⟩
   rw[if_pos c5]at h;cases h
  rw[if_pos c3]at h;cases h
 rw[if_pos c1]at h;cases h
theorem aOd(MP:Hid (aFf (fun s=>s.kd=1∨s.kd=2∨s.kd=3∨s.kd=8∨s.kd=9) (MIs (fun _=>True))))(LV:Hid aI6)(a0:Option Addr)(c0:Nat)(zs:List Int)(a1:Option Addr)(c1:Nat)(ls:List Ln)(a2:Option Addr)(c2:Nat)(l:List Of)(N:Int)(w:World)
  (Z30:Hid (zs.length≤30))(L100:Hid (ls.length≤100))(L50:Hid (l.length≤50))(H8:Hid (∀p∈zs,In8 p))(HF:Hid (∀x∈ls,x.Fits))(HFO:Hid (∀x∈l,x.Fits))(N0:Hid (a0=none→c0=0))(N1:Hid (a1=none→c1=0))(N2:Hid (a2=none→c2=0))
  (P0:Hid (aAs w (.slice a0 zs.length c0) 1 zs.length (zs.map (.int .u8))))(Q0:Hid (aAs w (.slice a1 ls.length c1) 5 ls.length (aAd ls)))(O0:Hid (aAs w (.slice a2 l.length c2) 7 l.length (aAe l)))(HN:Hid (0≤N∧N≤18446744073709551615)):
  Calls Tryz.prog 4 #[.agg #[.slice a0 zs.length c0,.slice a1 ls.length c1,.slice a2 l.length c2,.int .u64 N]] w (yR w (.bool true)):=by
 have b1:=(Below.refl w.heap.size w).alloc yL (.cells #[.slice a0 zs.length c0,.slice a1 ls.length c1,.slice a2 l.length c2,.int .u64 N] 46);have KX:=yH (Blk.new w #[.slice a0 zs.length c0,.slice a1 ls.length c1,.slice a2 l.length c2,.int .u64 N] 46);have BB:=yH b1;clear b1;have q0:decide (30<(zs.length:Int))=false:=by have:=Z30.o;simp;omega
 have q1:decide (100<(ls.length:Int))=false:=by have:=L100.o;simp;omega
 have q2:decide (50<(l.length:Int))=false:=by have:=L50.o;simp;omega
 go_enter Tryz.func4,Tryz.ntmps4
 go_upto_region 1 with fail
 generalize w.alloc (.cells #[.slice a0 zs.length c0,.slice a1 ls.length c1,.slice a2 l.length c2,.int .u64 N] 46)=W at *;have x0:=KX.o.cell 0;have x1:=KX.o.cell 1;have x2:=KX.o.cell 2;have x3:=KX.o.cell 3;have xl:=KX.o.lt;simp at x0 x1 x2 x3
 go_upto_region 4 with(refine aAb rfl 46 (.tmp 3) (.tmp 27) rfl W.heap.size #[.slice a0 zs.length c0,.slice a1 ls.length c1,.slice a2 l.length c2,.int .u64 N] rfl rfl 46 _ (Blk.new W #[.slice none 0 0,.slice none 0 0,.slice none 0 0,.int .u64 0] 46).out (by kernel_rfl) rfl (by simp[Value.oneCell']) ?_)
 have b6:Below W.heap.size W ((W.alloc (.cells #[.slice none 0 0,.slice none 0 0,.slice none 0 0,.int .u64 0] 46)).setRow W.heap.size #[.slice a0 zs.length c0,.slice a1 ls.length c1,.slice a2 l.length c2,.int .u64 N]):=below_setRow ((Below.refl W.heap.size W).alloc yL (.cells #[.slice none 0 0,.slice none 0 0,.slice none 0 0,.int .u64 0] 46)) yL _;have KT:=yH ((Blk.new W #[.slice none 0 0,.slice none 0 0,.slice none 0 0,.int .u64 0] 46).row (cs:=#[.slice a0 zs.length c0,.slice a1 ls.length c1,.slice a2 l.length c2,.int .u64 N]));have GT:Hid (w.heap.size<W.heap.size):=yH xl;generalize (W.alloc (.cells #[.slice none 0 0,.slice none 0 0,.slice none 0 0,.int .u64 0] 46)).setRow W.heap.size #[.slice a0 zs.length c0,.slice a1 ls.length c1,.slice a2 l.length c2,.int .u64 N]=W2 at *
 replace KX:=yH (KX.o.below b6 xl)
 replace BB:=yH (andB BB.o b6)
 clear x0 x1 x2 x3 xl b6 q0 q1 q2;generalize W.heap.size=t at *;have x0:=KX.o.cell 0;have xl:=KX.o.lt;simp at x0;have TW:=yH (aI7 (P0.o.below BB.o) N0.o);go_wp2_with fail;refine TW.o.mono ?_;rintro e w3 ⟨g1,rfl,hg,ht,b9⟩;have G1:Hid (t<g1):=yH (by have:=KT.o.lt;omega)
 replace KX:=yB KX b9
 replace KT:=yB KT b9
 replace BB:=yH (andB BB.o b9)
 have T1:=yH (ht);clear x0 xl TW hg ht b9;have y:=KT.o.cell 0;have yf:=KT.o.frozen 0;have yl:=KT.o.lt;simp at y
 go_upto_region 5 with fail
 have kk:=(Keep.refl (·=t) w3).setCell (p:=⟨t,0,none⟩) (.inl rfl) (.slice (some ⟨g1,0,none⟩) zs.length (zs.length+2))
 replace KT:=yH (show Blk (w3.setCell ⟨t,0,none⟩ (.slice (some ⟨g1,0,none⟩) zs.length (zs.length+2))) t #[.slice (some ⟨g1,0,none⟩) zs.length (zs.length+2),.slice a1 ls.length c1,.slice a2 l.length c2,.int .u64 N] 46 from KT.o.set 0 _)
 replace KX:=yH (KX.o.keep kk (by have:=GT.o;omega))
 replace BB:=yH (BB.o.trans (kk.below BB.o.size (fun j hj e=>by have:=GT.o;omega)))
 replace T1:=yH (T1.o.keep kk (by have:=G1.o;omega))
 clear y yf yl kk;generalize w3.setCell ⟨t,0,none⟩ (.slice (some ⟨g1,0,none⟩) zs.length (zs.length+2))=w3 at *;have x1:=KX.o.cell 1;have xl:=KX.o.lt;simp at x1;have TW:=yH (aLd (Q0.o.below BB.o) N1.o);go_wp2_with fail;refine TW.o.mono ?_;rintro e w4 ⟨g2,rfl,hg,ht,b9⟩;have G2:Hid (t<g2):=yH (by have:=KT.o.lt;omega)
 replace KX:=yB KX b9
 replace KT:=yB KT b9
 replace BB:=yH (andB BB.o b9)
 replace T1:=yH (T1.o.below b9)
 have T2:=yH (ht);clear x1 xl TW hg ht b9;have y:=KT.o.cell 1;have yf:=KT.o.frozen 1;have yl:=KT.o.lt;simp at y
 go_upto_region 6 with fail
 have kk:=(Keep.refl (·=t) w4).setCell (p:=⟨t,1,none⟩) (.inl rfl) (.slice (some ⟨g2,0,none⟩) ls.length (ls.length+2))
 replace KT:=yH (show Blk (w4.setCell ⟨t,1,none⟩ (.slice (some ⟨g2,0,none⟩) ls.length (ls.length+2))) t #[.slice (some ⟨g1,0,none⟩) zs.length (zs.length+2),.slice (some ⟨g2,0,none⟩) ls.length (ls.length+2),.slice a2 l.length c2,.int .u64 N] 46 from KT.o.set 1 _)
 replace KX:=yH (KX.o.keep kk (by have:=GT.o;omega))
 replace BB:=yH (BB.o.trans (kk.below BB.o.size (fun j hj e=>by have:=GT.o;omega)))
 replace T1:=yH (T1.o.keep kk (by have:=G1.o;omega))
 replace T2:=yH (T2.o.keep kk (by have:=G2.o;omega))
 clear y yf yl kk;generalize w4.setCell ⟨t,1,none⟩ (.slice (some ⟨g2,0,none⟩) ls.length (ls.length+2))=w4 at *;have x2:=KX.o.cell 2;have xl:=KX.o.lt;simp at x2;have TW:=yH (aJg (O0.o.below BB.o) N2.o (by have:=L50.o;omega));go_wp2_with fail;refine TW.o.mono ?_;rintro e w5 ⟨g3,rfl,hg,ht,b9⟩;have G3:Hid (t<g3):=yH (by have:=KT.o.lt;omega)
 replace KX:=yB KX b9
 replace KT:=yB KT b9
 replace BB:=yH (andB BB.o b9)
 replace T1:=yH (T1.o.below b9)
 replace T2:=yH (T2.o.below b9)
 have T3:=yH (ht);clear x2 xl TW hg ht b9;have y:=KT.o.cell 2;have yf:=KT.o.frozen 2;have yl:=KT.o.lt;simp at y
 go_upto_region 7 with fail
 have kk:=(Keep.refl (·=t) w5).setCell (p:=⟨t,2,none⟩) (.inl rfl) (.slice (some ⟨g3,0,none⟩) l.length (l.length+2))
 replace KT:=yH (show Blk (w5.setCell ⟨t,2,none⟩ (.slice (some ⟨g3,0,none⟩) l.length (l.length+2))) t #[.slice (some ⟨g1,0,none⟩) zs.length (zs.length+2),.slice (some ⟨g2,0,none⟩) ls.length (ls.length+2),.slice (some ⟨g3,0,none⟩) l.length (l.length+2),.int .u64 N] 46 from KT.o.set 2 _)
 replace KX:=yH (KX.o.keep kk (by have:=GT.o;omega))
 replace BB:=yH (BB.o.trans (kk.below BB.o.size (fun j hj e=>by have:=GT.o;omega)))
 replace T1:=yH (T1.o.keep kk (by have:=G1.o;omega))
 replace T2:=yH (T2.o.keep kk (by have:=G2.o;omega))
 replace T3:=yH (T3.o.keep kk (by have:=G3.o;omega))
 clear y yf yl kk;generalize w5.setCell ⟨t,2,none⟩ (.slice (some ⟨g3,0,none⟩) l.length (l.length+2))=w5 at *;have LT:Hid (g2<w5.heap.size∧g3<w5.heap.size):=yH ⟨T2.o.cells.1,T3.o.cells.1⟩;have SI:=yH (show aEj w5 ⟨zs,ls,l,N⟩ (.slice (some ⟨g1,0,none⟩) zs.length (zs.length+2)) (.slice (some ⟨g2,0,none⟩) ls.length (ls.length+2)) (.slice (some ⟨g3,0,none⟩) l.length (l.length+2))from⟨T1.o.reads (by have:=Z30.o;omega) (by simp),T2.o.reads (by have:=L100.o;omega) (aBa ls),T3.o.reads (by have:=L50.o;omega) (aCh l)⟩);have CM:=yH (mof_any SI.o H8.o HF.o HFO.o HN.o.1 HN.o.2 (show l.length≤100000000 by have:=L50.o;omega));have y0:=KT.o.cell 0;have y1:=KT.o.cell 1;have y2:=KT.o.cell 2;have y3:=KT.o.cell 3;have yl:=KT.o.lt;simp at y0 y1 y2 y3;go_wp2_with fail;refine CM.o.mono ?_;rintro e w6 ⟨b9,hm⟩;have W56:Hid (w5.heap.size≤w6.heap.size):=yH b9.size
 replace KX:=yB KX b9
 replace KT:=yB KT b9
 replace BB:=yH (andB BB.o b9)
 replace T1:=yH (T1.o.below b9)
 replace T2:=yH (T2.o.below b9)
 replace T3:=yH (T3.o.below b9)
 have B6:=yH BB.o.size;clear y0 y1 y2 y3 yl CM SI b9;have CR:=yH (rmof_any (N:=N) (P0.o.below BB.o) (Q0.o.below BB.o) (O0.o.below BB.o) N2.o HF.o (by have:=L50.o;omega));rcases hm with⟨hm,k,rfl,hk,hi⟩|⟨hm,rfl⟩
 ·have MI:=yH (hi);have EZ:=yH hm;have HI:=yH (hinv_of hm HFO.o HN.o.1 HN.o.2);have KG:Hid (w5.heap.size≤k):=yH hk;clear hm hi hk;have x0:=KX.o.cell 0;have x1:=KX.o.cell 1;have x2:=KX.o.cell 2;have x3:=KX.o.cell 3;have xl:=KX.o.lt;simp at x0 x1 x2 x3;go_wp2_with fail;refine CR.o.mono ?_;rintro e w7 ⟨b9,⟨_,d,rl,rb,vp,vl,vb,rfl,hd⟩|⟨hn,_⟩⟩;rotate_left
  ·exact absurd EZ.o hn
  replace KX:=yB KX b9
  replace KT:=yB KT b9
  replace BB:=yH (andB BB.o b9)
  replace T1:=yH (T1.o.below b9)
  replace T2:=yH (T2.o.below b9)
  replace T3:=yH (T3.o.below b9)
  replace MI:=yH (MP.o.below MI.o b9)
  have DW:Hid (w5.heap.size≤w6.heap.size):=yH W56.o;have RD:=yH (hd);clear x0 x1 x2 x3 xl CR hd b9;have x0:=KX.o.cell 0;have xl:=KX.o.lt;simp at x0;have y0:=KT.o.cell 0;have yl:=KT.o.lt;simp at y0;have LL:=yH (aE1 (by have:=Z30.o;omega) T1.o (P0.o.below BB.o));rw[decide_eq_true rfl]at LL;go_wp2_with fail;refine LL.o.mono ?_;rintro e v0 ⟨rfl,b9⟩
  replace KX:=yB KX b9
  replace KT:=yB KT b9
  replace BB:=yH (andB BB.o b9)
  replace T1:=yH (T1.o.below b9)
  replace T2:=yH (T2.o.below b9)
  replace T3:=yH (T3.o.below b9)
  replace RD:=yH (RD.o.below b9)
  replace MI:=yH (MP.o.below MI.o b9)
  clear x0 xl y0 yl LL b9;have x1:=KX.o.cell 1;have xl:=KX.o.lt;simp at x1;have y1:=KT.o.cell 1;have yl:=KT.o.lt;simp at y1;have LL:=yH (aGn (by have:=L100.o;omega) T2.o (Q0.o.below BB.o));rw[decide_eq_true rfl]at LL;go_wp2_with fail;refine LL.o.mono ?_;rintro e v1 ⟨rfl,b9⟩
  replace KX:=yB KX b9
  replace KT:=yB KT b9
  replace BB:=yH (andB BB.o b9)
  replace T1:=yH (T1.o.below b9)
  replace T2:=yH (T2.o.below b9)
  replace T3:=yH (T3.o.below b9)
  replace RD:=yH (RD.o.below b9)
  replace MI:=yH (MP.o.below MI.o b9)
  clear x1 xl y1 yl LL b9;have x2:=KX.o.cell 2;have xl:=KX.o.lt;simp at x2;have y2:=KT.o.cell 2;have yl:=KT.o.lt;simp at y2;have LL:=yH (aFm (by have:=L50.o;omega) T3.o (O0.o.below BB.o));rw[decide_eq_true rfl]at LL;go_wp2_with fail;refine LL.o.mono ?_;rintro e v2 ⟨rfl,b9⟩
  replace KX:=yB KX b9
  replace KT:=yB KT b9
  replace BB:=yH (andB BB.o b9)
  replace T1:=yH (T1.o.below b9)
  replace T2:=yH (T2.o.below b9)
  replace T3:=yH (T3.o.below b9)
  replace RD:=yH (RD.o.below b9)
  replace MI:=yH (MP.o.below MI.o b9)
  clear x2 xl y2 yl LL b9;obtain⟨cl,hcl,hnl⟩:=T2.o.blk;obtain⟨co,hco,hno⟩:=T3.o.blk;have KL:=yH hcl;have KO:=yH hco;have ht2:=G2.o;have ht3:=G3.o;have gt:=GT.o;have lt2:=LT.o.1;have lt3:=LT.o.2;have w56:=W56.o;have ne23:g3≠g2:=aAy hco hcl (by decide);clear hcl hco;go_wp2_with fail
  go_loopw [8] (SpAt (MIs (fun _=>True)) w ls.length 5 g2 71 g3 (l.length*7) 75 t #[.slice (some ⟨g1,0,none⟩) zs.length (zs.length+2),.slice (some ⟨g2,0,none⟩) ls.length (ls.length+2),.slice (some ⟨g3,0,none⟩) l.length (l.length+2),.int .u64 N] k w6.heap.size d rl rb ⟨zs,ls,l,N⟩ vp vl vb) (fun i _=>ls.length - (intOf i).toNat)
  case atStart=>exact⟨0,cl,Nat.zero_le _,rfl,KL.o,hnl,⟨co,KO.o,hno⟩,KT.o,MI.o,RD.o,BB.o⟩
  clear RD KT BB MI KL KO;obtain⟨j,cs,hj,rfl,hcs,hn,hcx,hkt,hmi,hrd,hbw⟩:=hrel;have K1:=yH hcs;have CX:=yH hcx;have KT:=yH hkt;have MI:=yH hmi;have RD:=yH hrd;have BB:=yH hbw;clear hcs hcx hkt hmi hrd hbw;have z30:=Z30.o;have l100:=L100.o;have l50:=L50.o;have y1:=KT.o.cell 1;have yl:=KT.o.lt;simp at y1
  by_cases hjl:j<ls.length
  ·have hki:(j:Int)<(ls.length:Int):=by omega
   have hk0:(0:Int)≤(j:Int):=by omega
   have qj:decide ((j:Int)<(ls.length:Int))=true:=by simpa using hjl
   have ks:=K1.o.lt;have kf:=K1.o.frozen (j*5+4);have kc:=K1.o.cell (j*5+4);rw[Array.getElem?_eq_getElem (by omega)]at kc;have ST:=yH (fun o v i hi=>SpAt.set (w:=w) (i:=i) MP.o hjl K1.o (.inl rfl) hn CX.o KT.o MI.o RD.o BB.o o v ne23 (by omega) (by omega) (by omega) hi);generalize cs[j*5+4]'(by omega)=cv at *;go_wp2_with fail;go_roundw
   case rel=>exact ST.o _ _ _ (by first|rfl|go_num)
   case measure=>simp[intOf];omega
  have qj:decide ((j:Int)<(ls.length:Int))=false:=by simp;omega
  obtain⟨co2,hco2,hno2⟩:=CX.o;have KL2:=yH K1.o;have KO2:=yH hco2;have hn5:=hn;clear hco2;go_wp2_with fail;clear y1 yl hjl hj qj
  go_loopw [9] (SpAt (MIs (fun _=>True)) w l.length 7 g3 75 g2 (ls.length*5) 71 t #[.slice (some ⟨g1,0,none⟩) zs.length (zs.length+2),.slice (some ⟨g2,0,none⟩) ls.length (ls.length+2),.slice (some ⟨g3,0,none⟩) l.length (l.length+2),.int .u64 N] k w6.heap.size d rl rb ⟨zs,ls,l,N⟩ vp vl vb) (fun i _=>l.length - (intOf i).toNat)
  case atStart=>exact⟨0,co2,Nat.zero_le _,rfl,KO2.o,hno2,⟨cs,KL2.o,hn5⟩,KT.o,MI.o,RD.o,BB.o⟩
  clear RD KT BB MI KL2 KO2 CX K1 hn hno2 hn5;obtain⟨j,cs,hj,rfl,hcs,hn,hcx,hkt,hmi,hrd,hbw⟩:=hrel;have K1:=yH hcs;have CX:=yH hcx;have KT:=yH hkt;have MI:=yH hmi;have RD:=yH hrd;have BB:=yH hbw;clear hcs hcx hkt hmi hrd hbw;have z30:=Z30.o;have l100:=L100.o;have l50:=L50.o;have y2:=KT.o.cell 2;have yl:=KT.o.lt;simp at y2
  by_cases hjl:j<l.length
  ·have hki:(j:Int)<(l.length:Int):=by omega
   have hk0:(0:Int)≤(j:Int):=by omega
   have qj:decide ((j:Int)<(l.length:Int))=true:=by simpa using hjl
   have ks:=K1.o.lt;have kf:=K1.o.frozen (j*7+4);have kc:=K1.o.cell (j*7+4);rw[Array.getElem?_eq_getElem (by omega)]at kc;have ST:=yH (fun o v i hi=>SpAt.set (w:=w) (i:=i) MP.o hjl K1.o (.inr rfl) hn CX.o KT.o MI.o RD.o BB.o o v (Ne.symm ne23) (by omega) (by omega) (by omega) hi);generalize cs[j*7+4]'(by omega)=cv at *;go_wp2_with fail;go_roundw
   case rel=>exact ST.o _ _ _ (by first|rfl|go_num)
   case measure=>simp[intOf];omega
  have qj:decide ((j:Int)<(l.length:Int))=false:=by simp;omega
  have CS:=yH (MP.o.state MI.o HI.o);go_wp2_with fail;refine CS.o.mono ?_;rintro e u1 ⟨ap,al,ao,rfl,h1,h2,h3,b9⟩;clear y2 yl hjl hj qj;have S1:=yH (show aEj u1 ⟨zs,ls,l,N⟩ ap al ao from⟨h1.reads HI.o.lens.1,h2.reads HI.o.lens.2.1,h3.reads HI.o.lens.2.2⟩)
  replace RD:=yH (RD.o.below b9)
  replace BB:=yH (andB BB.o b9)
  clear h1 h2 h3 b9 CS;have CD:=yH (aOa RD.o (by show zs.length≤1000;omega) (by show ls.length≤1000;omega) (by show l.length≤1000;omega));go_wp2_with fail;refine CD.o.mono ?_;rintro e u2 ⟨bp,bl,bo,rfl,h2,b9⟩;have CE:=yH (aLe (S1.o.below b9) h2)
  replace BB:=yH (andB BB.o b9)
  clear h2 b9 CD;go_wp2_with fail;refine CE.o.mono ?_;rintro e u3 ⟨rfl,b9⟩
  replace BB:=yH (andB BB.o b9)
  clear b9 CE;go_wp2_with fail;refine(LV.o _).mono ?_;rintro e wl ⟨rfl,bl⟩;go_wp2_with fail;go_ret;exact⟨rfl,andB BB.o bl⟩
 have EZ:=yH hm;have x0:=KX.o.cell 0;have x1:=KX.o.cell 1;have x2:=KX.o.cell 2;have x3:=KX.o.cell 3;have xl:=KX.o.lt;simp at x0 x1 x2 x3;go_wp2_with fail;refine CR.o.mono ?_;rintro e w7 ⟨b9,⟨hn,_⟩|⟨_,rfl⟩⟩
 ·exact absurd hn EZ.o
 replace KX:=yB KX b9
 replace KT:=yB KT b9
 replace BB:=yH (andB BB.o b9)
 replace T1:=yH (T1.o.below b9)
 replace T2:=yH (T2.o.below b9)
 replace T3:=yH (T3.o.below b9)
 clear x0 x1 x2 x3 xl CR hm b9;generalize mofE ⟨zs,ls,l,N⟩=er at *;have qn:(er != er)=false:=by simp
 have qz:(er != 0)=true:=by simpa using EZ.o
 have x0:=KX.o.cell 0;have xl:=KX.o.lt;simp at x0;have y0:=KT.o.cell 0;have yl:=KT.o.lt;simp at y0;have LL:=yH (aE1 (by have:=Z30.o;omega) T1.o (P0.o.below BB.o));rw[decide_eq_true rfl]at LL;go_wp2_with fail;refine LL.o.mono ?_;rintro e v0 ⟨rfl,b9⟩
 replace KX:=yB KX b9
 replace KT:=yB KT b9
 replace BB:=yH (andB BB.o b9)
 replace T1:=yH (T1.o.below b9)
 replace T2:=yH (T2.o.below b9)
 replace T3:=yH (T3.o.below b9)
 clear x0 xl y0 yl LL b9;have x1:=KX.o.cell 1;have xl:=KX.o.lt;simp at x1;have y1:=KT.o.cell 1;have yl:=KT.o.lt;simp at y1;have LL:=yH (aGn (by have:=L100.o;omega) T2.o (Q0.o.below BB.o));rw[decide_eq_true rfl]at LL;go_wp2_with fail;refine LL.o.mono ?_;rintro e v1 ⟨rfl,b9⟩
 replace KX:=yB KX b9
 replace KT:=yB KT b9
 replace BB:=yH (andB BB.o b9)
 replace T1:=yH (T1.o.below b9)
 replace T2:=yH (T2.o.below b9)
 replace T3:=yH (T3.o.below b9)
 clear x1 xl y1 yl LL b9;have x2:=KX.o.cell 2;have xl:=KX.o.lt;simp at x2;have y2:=KT.o.cell 2;have yl:=KT.o.lt;simp at y2;have LL:=yH (aFm (by have:=L50.o;omega) T3.o (O0.o.below BB.o));rw[decide_eq_true rfl]at LL;go_wp2_with fail;refine LL.o.mono ?_;rintro e v2 ⟨rfl,b9⟩
 replace KX:=yB KX b9
 replace KT:=yB KT b9
 replace BB:=yH (andB BB.o b9)
 replace T1:=yH (T1.o.below b9)
 replace T2:=yH (T2.o.below b9)
 replace T3:=yH (T3.o.below b9)
 clear x2 xl y2 yl LL b9;go_wp2_with fail;refine(LV.o _).mono ?_;rintro e wl ⟨rfl,bl⟩;go_wp2_with fail;go_ret;exact⟨rfl,andB BB.o bl⟩
theorem aOe(HM:aFf (fun s=>s.kd=1∨s.kd=2∨s.kd=3∨s.kd=8∨s.kd=9) (MIs (fun _=>True)))(HL:aI6)(x:Sx)(w:World)(h:x.In w):
  Calls Tryz.prog 4 #[x.val] w (yR w (.bool true)):=by
 obtain⟨a0,n0,c0,z0,a1,n1,c1,ls,a2,n2,c2,l,N⟩:=x;obtain⟨hp,hl,ho,hn⟩:=h;dsimp only at *;unfold Sx.val;dsimp only
 by_cases hg:30<n0∨100<n1∨50<n2
 ·exact machof_big HL a0 n0 c0 a1 n1 c1 a2 n2 c2 N w hg
 obtain⟨zs,hz,hn0,h8,hR0⟩:=reads_row hp (by omega);have hR1:=hl.reads (by omega);have hR2:=ho.reads (by omega);have hls:=hl.2.1;have hos:=ho.2.1;subst hz hls hos;exact aOd (yH HM) (yH HL) a0 c0 zs a1 c1 ls a2 c2 l N w (yH (by omega)) (yH (by omega)) (yH (by omega)) (yH h8) (yH hl.2.2.1) (yH ho.2.2.1) (yH hn0) (yH hl.1) (yH ho.1) (yH hR0) (yH hR1) (yH hR2) (yH hn)
end Go.Proofs.YtngnfdnfpiiclaaGreat
