/- Pieces of one proof. -/
import Derived.Test.YtngnfdnfpiiclaaGreatO05
import Derived.Test.YtngnfdnfpiiclaaGreatO10
import Derived.Sort.Grow
import Derived.Defers
set_option linter.all false
set_option maxHeartbeats 64000000
set_option maxRecDepth 100000
namespace Go.Proofs.YtngnfdnfpiiclaaGreat
open Go.RowKit
def aN6(w:World)(bl bb:Nat)(ps:List Int)(ls:List Ln)(l:List Of)(N:Int)(e:Ending)(w':World):Prop:=
 ∃rl rb vp vl vb,e=.returned (.agg #[.pointer (some ⟨rl,0,none⟩),.pointer (some ⟨rb,0,none⟩)])∧RefL w' bl rl ps ls vp vl∧RefB w' bb rb l N vb∧
  w.heap.size≤rl∧w.heap.size≤rb∧(∀b,vp.ownBlock=some b→w.heap.size≤b)∧(∀b,vl.ownBlock=some b→w.heap.size≤b)∧(∀b,vb.ownBlock=some b→w.heap.size≤b)∧Below w.heap.size w w'
theorem aN7{w:World}{bl bb rl rb:Nat}{ps:List Int}{ls:List Ln}{l:List Of}{N:Int}{vp vl vb:Value}(hR:RefL w bl rl ps ls vp vl)(hB:RefB w bb rb l N vb)(h1:ps.length≤1000)(h2:ls.length≤1000)(h3:l.length≤1000):
  Calls Tryz.prog 48 #[.agg #[.pointer (some ⟨rl,0,none⟩),.pointer (some ⟨rb,0,none⟩)]] w (aN6 w bl bb ps ls l N):=by
 have hg1:(w.alloc (.cells #[.pointer (some ⟨rl,0,none⟩),.pointer (some ⟨rb,0,none⟩)] 103)).heap.size=w.heap.size+1:=by simp
 have b1:=(Below.refl w.heap.size w).alloc yL (.cells #[.pointer (some ⟨rl,0,none⟩),.pointer (some ⟨rb,0,none⟩)] 103);have k1:=Blk.new w #[.pointer (some ⟨rl,0,none⟩),.pointer (some ⟨rb,0,none⟩)] 103;generalize hW1:w.alloc (.cells #[.pointer (some ⟨rl,0,none⟩),.pointer (some ⟨rb,0,none⟩)] 103)=W1 at *;have b2:=(Below.refl W1.heap.size W1).alloc yL (.cells #[.pointer none,.pointer none] 103);have k2:=Blk.new W1 #[.pointer none,.pointer none] 103;rw[hg1]at k2;generalize hW2:W1.alloc (.cells #[.pointer none,.pointer none] 103)=W2 at *;have HW1:=yH hW1;have HW2:=yH hW2;have KX:=yH (k1.below b2 k1.lt);have KF:=yH k2;have CL:=yH (rcopy_any (((hR.below b1).below b2).below (Below.refl _ W2).drew) h1 h2);have HB:=yH (((hB.below b1).below b2).below (Below.refl _ W2).drew);have B1:=yH (b1.trans (b2.mono b1.size));have H3:=yH h3;clear hR hB h1 h2 h3 b1 b2 k1 k2 hW1 hW2 hg1;go_enter Tryz.func48,Tryz.ntmps48
 go_upto_region 1 with fail
 rw[HW1.o,HW2.o];have e0:=KX.o.cell 0;have e1:=KX.o.cell 1;have kx:=KX.o.lt;have kf:=KF.o.lt;have f0:=KF.o.cell 0;have f1:=KF.o.cell 1;simp at e0 e1 f0 f1
 go_region_with (first|(go_at_call 78;refine CL.o.mono ?_;rintro e w1 ⟨g1,vp1,vl1,rfl,r1,n1,n2,n3,b1⟩;have KX1:=yH (KX.o.drew.below b1 kx);have KF1:=yH (KF.o.drew.below b1 kf);have R1:=yH r1;have BB:=yH b1;have NN:=yH (And.intro n1 (And.intro n2 n3));have CB:=yH (bcopy_any (HB.o.below b1) H3.o);clear r1 b1 n1 n2 n3;have c0:=KX1.o.cell 0;have c1:=KX1.o.cell 1;have cx:=KX1.o.lt;simp at c0 c1)|(go_at_call 79;refine CB.o.mono ?_;rintro e w2 ⟨g2,vb2,rfl,r2,n1,n2,b2⟩;have KF2:=yB KF1 b2;have R2:=yH r2;have B2:=yH b2;have NM:=yH (And.intro n1 n2);clear r2 b2 n1 n2;have z0:=KF2.o.cell 0;have z1:=KF2.o.cell 1;have zx:=KF2.o.lt;have zf:=KF2.o.frozen;simp at z0 z1))
 all_goals
  go_wp2;refine bodyPost_ret (v:=.agg #[.pointer (some ⟨g1,0,none⟩),.pointer (some ⟨g2,0,none⟩)]) (results_cell_row rfl _ _ (w.heap.size+1) 103 #[.pointer (some ⟨g1,0,none⟩),.pointer (some ⟨g2,0,none⟩)] (0,0) _ rfl ((KF2.o.set 0 _).set 1 _).out Tryz.underlying103 rfl (by kernel_rfl)) rfl ?_
  have kk:Keep (·=w.heap.size+1) w2 ((w2.setCell ⟨w.heap.size+1,0,none⟩ (.pointer (some ⟨g1,0,none⟩))).setCell ⟨w.heap.size+1,1,none⟩ (.pointer (some ⟨g2,0,none⟩))):=by
   refine Keep.setCell (S:=(·=w.heap.size+1)) ?_ (p:=⟨w.heap.size+1,1,none⟩) (.inl rfl) _;exact Keep.setCell (S:=(·=w.heap.size+1)) (Keep.refl _ _) (p:=⟨w.heap.size+1,0,none⟩) (.inl rfl) _
  have s1:=B1.o.size;have s2:=BB.o.size;obtain⟨n1,n2,n3⟩:=NN.o;obtain⟨m1,m2⟩:=NM.o;have hd:W2.drew.heap.size=W2.heap.size:=rfl;rw[hd]at s2 n1 n2 n3
  exact⟨_,_,_,_,_,rfl,(R1.o.below B2.o).keep kk (by omega) (fun b h=>by have:=n2 b h;omega) (fun b h=>by have:=n3 b h;omega),R2.o.keep kk (by omega) (fun b h=>by have:=m2 b h;omega),by omega,by omega,fun b h=>by have:=n2 b h;omega,fun b h=>by have:=n3 b h;omega,fun b h=>by have:=m2 b h;omega,
   (B1.o.trans (((pAA BB.o).trans (B2.o.mono s2)).mono s1)).trans (kk.below (by omega) (fun k hk h=>by omega))⟩
theorem aMm{w:World}{b o:Nat}{ls:List Of}(h:∀j,j<ls.length*7→w.cell? ⟨b,o+j,none⟩=(aAe ls)[j]?){k:Nat}(hk:k<ls.length):
  w.cell? ⟨b,o+k*7,none⟩=some (.int .u64 ls[k].se)∧w.cell? ⟨b,o+k*7+1,none⟩=some (.int .u8 ls[k].ow)∧w.cell? ⟨b,o+k*7+2,none⟩=some (.int .u8 ls[k].sl)∧w.cell? ⟨b,o+k*7+3,none⟩=some (.int .u8 ls[k].bu)∧w.cell? ⟨b,o+k*7+4,none⟩=some (.int .i64 ls[k].lf)∧w.cell? ⟨b,o+k*7+5,none⟩=some (.int .i64 ls[k].nu)∧w.cell? ⟨b,o+k*7+6,none⟩=some (.int .i64 ls[k].de):=by
 have q:∀j,j<7→w.cell? ⟨b,o+k*7+j,none⟩=ls[k].vals[j]? := fun j hj=>by
  have:=h (k*7+j) (by omega);rw[aAf ls k j hj hk,←Nat.add_assoc]at this;exact this
 exact⟨q 0 (by omega),q 1 (by omega),q 2 (by omega),q 3 (by omega),q 4 (by omega),q 5 (by omega),q 6 (by omega)⟩
structure OkTo(l:List Of)(last:Int):Prop where
 rise:l.Pairwise fun x y=>x.se<y.se
 ok:∀x∈l,x.may∧1≤x.se∧x.se≤last
 last:(l=[]∧last=0)∨∃x∈l,x.se=last
theorem OkTo.nil:OkTo [] 0:=⟨List.Pairwise.nil,by simp,.inl ⟨rfl,rfl⟩⟩
theorem OkTo.nonneg{l:List Of}{last:Int}(h:OkTo l last):0≤last:=by
 rcases h.last with⟨_,h⟩|⟨x,hx,h⟩
 ·omega
 have:=(h ▸ (‹OkTo l last›).ok x hx).2.1;omega
theorem OkTo.next{l:List Of}{last:Int}{k:Nat}(hk:k<l.length)(h:OkTo (l.take k) last)(hm:l[k].may)(hs:last<l[k].se):OkTo (l.take (k+1)) l[k].se:=by
 have h0:=h.nonneg;rw[List.take_succ_eq_append_getElem hk];refine⟨?_,fun x hx=>?_,.inr ⟨l[k],List.mem_append_right _ (List.mem_singleton.2 rfl),rfl⟩⟩
 ·rw[List.pairwise_append];refine⟨h.rise,by simp,fun a ha b hb=>?_⟩;rw[List.mem_singleton]at hb;subst hb;have:=(h.ok a ha).2.2;omega
 rcases List.mem_append.1 hx with hx|hx
 ·obtain⟨a,b,c⟩:=h.ok x hx;exact⟨a,b,by omega⟩
 rw[List.mem_singleton]at hx;subst hx;exact⟨hm,by omega,Int.le_refl _⟩
theorem OkTo.good{l:List Of}{last nx:Int}(h:OkTo l last)(hn:last<nx):okO nx l∧nx≠0:=by
 have:=h.nonneg;exact⟨⟨h.rise,fun x hx=>by obtain⟨a,b,c⟩:=h.ok x hx;exact⟨a,by omega,by omega⟩⟩,by omega⟩
theorem OkTo.bad{l:List Of}{last nx:Int}{k:Nat}(hk:k<l.length)(h:OkTo (l.take k) last)(h0:0≤l[k].se)(hb:¬l[k].may∨l[k].se≤last):¬(okO nx l∧nx≠0):=by
 rintro⟨⟨h1,h2⟩,_⟩;obtain⟨m,z,_⟩:=h2 _ (List.getElem_mem hk);rcases hb with hb|hb
 ·exact hb m
 rcases h.last with⟨_,e⟩|⟨x,hx,e⟩
 ·omega
 obtain⟨j,hj,rfl⟩:=List.mem_take_iff_getElem.1 hx;have:=List.pairwise_iff_getElem.1 h1 j k (by omega) hk (by omega);omega
theorem OkTo.late{l:List Of}{last nx:Int}(h:OkTo l last)(h0:0≤nx)(hb:nx≤last):¬(okO nx l∧nx≠0):=by
 rintro⟨⟨_,h2⟩,hz⟩;rcases h.last with⟨_,e⟩|⟨x,hx,e⟩
 ·omega
 have:=(h2 x hx).2.2;omega
theorem okO.binv{l:List Of}{nx:Int}(h:okO nx l)(h0:nx≠0)(h1:0≤nx)(h2:nx≤18446744073709551615)(hl:l.length≤32)(hf:∀x∈l,x.Fits):BInv l nx:=
 ⟨fun x hx=>(h.2 x hx).1,h.1,fun x hx=>by have:=(h.2 x hx).2;have:=(hf x hx).se;omega,hl,by omega,h2⟩
def POfPost(w:World)(l:List Of)(nx:Int)(e:Ending)(w':World):Prop:=
 Below w.heap.size w w'∧((l.length≤32∧okO nx l∧nx≠0∧∃g vl,e=.returned (.tuple #[.pointer (some ⟨g,0,none⟩),.int .i64 0])∧PB w' w.heap.size g l nx vl)∨
  (e=.returned (.tuple #[.pointer none,.int .i64 9])∧32<l.length)∨(e=.returned (.tuple #[.pointer none,.int .i64 1])∧l.length≤32∧¬(okO nx l∧nx≠0)))
def POfAt(w:World)(l:List Of)(nx:Int)(s7 s18:Value)(wr:World):Prop:=
 ∃(k:Nat) (last:Int) (vl:Value),k≤l.length∧s18=.int .i64 k∧s7=.int .u64 last∧OkTo (l.take k) last∧PB wr w.heap.size w.heap.size (l.take k) nx vl∧Below w.heap.size w wr
theorem pofB_any{w:World}{v:Value}{l:List Of}{nx:Int}(hp:aAs w v 7 l.length (aAe l))(hf:∀x∈l,x.Fits)(h0:0≤nx)(h1:nx≤18446744073709551615):
  Calls Tryz.prog 66 #[v,.int .u64 nx] w (POfPost w l nx):=by
 obtain⟨ai,capi,hv,hn,hxl,hrd⟩:=hp;subst hv;have HR:=yH hrd;have HF:=yH hf;clear hxl hrd hf
 by_cases h32:32<l.length
 ·have q0:decide (32<(l.length:Int))=true:=by simp;omega
  have H32:=yH h32;clear h32;go_enter Tryz.func66,Tryz.ntmps66;go_wp2_with fail;refine bodyPost_ret (v:=.tuple #[.pointer none,.int .i64 9]) (by simp[results,Tryz.results66,go_sem]) rfl ?_;exact⟨yZ,.inr (.inl ⟨rfl,H32.o⟩)⟩
 have q0:decide (32<(l.length:Int))=false:=by simp;omega
 have h32:l.length≤32:=by omega
 have KG:=yH (Blk.new w #[.slice none 0 0,.int .u64 nx] 158);have B0:=yH ((Below.refl w.heap.size w).alloc yL (.cells #[.slice none 0 0,.int .u64 nx] 158));go_enter Tryz.func66,Tryz.ntmps66;go_wp2_with fail
 go_loopw [7,18] (POfAt w l nx) (fun _ i _=>l.length - (intOf i).toNat)
 case atStart=>exact⟨0,0,.slice none 0 0,Nat.zero_le _,rfl,rfl,OkTo.nil,⟨KG.o,Nat.le_refl _,World.ownsRow_nil _ _ _ _⟩,B0.o⟩
 obtain⟨k,last,vl,hk,rfl,rfl,hO,hP,hb⟩:=hrel;have hl0:=hO.nonneg
 by_cases hkl:k<l.length
 ·obtain⟨b,o,rfl,hbl,hcell⟩:=HR.o (by omega);obtain⟨e0,e1,e2,e3,e4,e5,e6⟩:=aMm (w:=wr) (fun j hj=>by rw[hb.cell (p:=⟨b,o+j,none⟩) hbl];exact hcell j hj) hkl;have hbl2:b<wr.heap.size:=yM hbl hb.size;have hx:=HF.o _ (List.getElem_mem hkl);have BD:=yH (fun h=>OkTo.bad (nx:=nx) hkl hO hx.se.1 h);have NX:=yH (fun h1 h2=>OkTo.next hkl hO h1 h2);have TK:=yH (List.take_succ_eq_append_getElem hkl);have hlk:(l.take k).length≤32:=Nat.le_trans (List.length_take_le _ _) (by omega);have HX:=yH hx;clear hcell hx hO;generalize l[k]=x at *;generalize l.take k=out at *;have bw:=(Below.refl wr.heap.size wr).alloc yL (.cells #[.int .u64 x.se,.int .u8 x.ow,.int .u8 x.sl,.int .u8 x.bu,.int .i64 x.lf,.int .i64 x.nu,.int .i64 x.de] 75);have K0:=yH (Blk.new wr #[.int .u64 x.se,.int .u8 x.ow,.int .u8 x.sl,.int .u8 x.bu,.int .i64 x.lf,.int .i64 x.nu,.int .i64 x.de] 75);have HP0:=yH (hP.below bw);have HNF:=yH (show ¬Foot w.heap.size vl wr.heap.size from fun h=>by have:=(hP.lt h).2;omega);have HBW:=yH (hb.trans (bw.mono hb.size));have CM:=yH (pmay_any x (wr.alloc (.cells #[.int .u64 x.se,.int .u8 x.ow,.int .u8 x.sl,.int .u8 x.bu,.int .i64 x.lf,.int .i64 x.nu,.int .i64 x.de] 75)) HX.o);clear bw hP hb
  by_cases hm:x.may
  ·rw[decide_eq_true hm]at CM
   by_cases hs:x.se≤last
   ·have HBad:=yH (BD.o (.inr hs));clear BD NX hm TK;go_wp2_with fail;refine CM.o.mono ?_;rintro e w3 ⟨rfl,b3⟩;have K3:=K0.o.below b3 K0.o.lt;have d0:=K3.cell 0;have dl:=K3.lt;simp at d0;have HB3:=yT HBW b3;clear b3 K3 CM;go_wp2_with fail;refine bodyPost_ret (v:=.tuple #[.pointer none,.int .i64 1]) (by simp[results,Tryz.results66,go_sem]) rfl ?_;exact⟨HB3.o,.inr (.inr ⟨rfl,h32,HBad.o⟩)⟩
   have hs':last<x.se:=by omega
   have HN:=yH (NX.o hm hs');clear BD NX hm hs;go_wp2_with fail;refine CM.o.mono ?_;rintro e w3 ⟨rfl,b3⟩;have HA4:=yB K0 b3;have HG4':=HP0.o.below b3;have HB3:=yT HBW b3;clear b3 CM HP0 HBW K0;obtain⟨ao,cap,hvl,hc1,hc2,_⟩:=aAh HG4'.row;subst hvl;have HG4:=yH HG4';clear HG4';unfold maxLen at hc2;have d0:=HA4.o.cell 0;have dl:=HA4.o.lt;simp at d0;go_wp2_with fail;clear d0 dl;have hgl:=HG4.o.blk.lt;have d0:=HG4.o.blk.cell 0;simp at d0;have hal:=HA4.o.lt;have a0:=HA4.o.cell 0;have a1:=HA4.o.cell 1;have a2:=HA4.o.cell 2;have a3:=HA4.o.cell 3;have a4:=HA4.o.cell 4;have a5:=HA4.o.cell 5;have a6:=HA4.o.cell 6;simp at a0 a1 a2 a3 a4 a5 a6;have hbs:=Nat.le_trans HG4.o.ge (Nat.le_of_lt hgl)
   go_region_law (refine aIx rfl (.tmp 35) (.tmp 37) 156 rfl w.heap.size 197 Tryz.underlying156 rfl aL7 (.slice ao out.length cap) out rfl (aAc HG4.o.row (yZ.drew.alloc yL _)) w3.heap.size 1 x rfl (Blk.new w3.drew _ _) (by omega) (by simp;omega) ?_;intro v' w' ho hgr hat;have HAP:=yH (appended HG4.o ho hgr hat);have hB:=HAP.o.1;have d1:=hB.cell 0;have f1:=hB.frozen 0;have l1:=hB.lt;simp at d1;obtain⟨ao',cap',hv',_⟩:=aAh ho;obtain⟨ln,hln⟩:∃ln,(out++[x]).length=ln:=⟨_,rfl⟩;rw[hln]at hv';subst hv';clear hln;clear ho hgr hat hB d0)
   all_goals
    have HE:=yH HAP.o.2;clear HAP d1 f1 l1;have e3:=HE.o.2.2 HA4.o HNF.o;have e4:=e3.cell 0;have e5:=e3.lt;simp at e4;clear e3;go_wp2_with fail;go_roundw
    case rel=>exact⟨k+1,x.se,_,by omega,by go_num,by first|rfl|go_num,HN.o,by rw[TK.o];exact HE.o.1,HB3.o.trans (HE.o.2.1.1.below HB3.o.size (fun j hj hf=>by have:=(HG4.o.lt hf).1;omega))⟩
    case measure=>simp[intOf];omega
  rw[decide_eq_false hm]at CM;have HBad:=yH (BD.o (.inl hm));clear BD NX hm TK;go_wp2_with fail;refine CM.o.mono ?_;rintro e w3 ⟨rfl,b3⟩;have HB3:=yT HBW b3;clear b3 CM;go_wp2_with fail;refine bodyPost_ret (v:=.tuple #[.pointer none,.int .i64 1]) (by simp[results,Tryz.results66,go_sem]) rfl ?_;exact⟨HB3.o,.inr (.inr ⟨rfl,h32,HBad.o⟩)⟩
 have hke:l.take k=l:=List.take_of_length_le (by omega);rw[hke]at hO hP
 by_cases hs:nx≤last
 ·have HBad:=yH (hO.late h0 hs);have HB:=yH hb;clear hO hP hb hke;go_wp2_with fail;refine bodyPost_ret (v:=.tuple #[.pointer none,.int .i64 1]) (by simp[results,Tryz.results66,go_sem]) rfl ?_;exact⟨HB.o,.inr (.inr ⟨rfl,h32,HBad.o⟩)⟩
 have HG:=yH (hO.good (nx:=nx) (by omega));have HB:=yH hb;have HP:=yH hP;clear hO hP hb hke;go_wp2_with fail;refine bodyPost_ret (v:=.tuple #[.pointer (some ⟨w.heap.size,0,none⟩),.int .i64 0]) (by simp[results,Tryz.results66,go_sem]) rfl ?_;exact⟨HB.o,.inl ⟨h32,HG.o.1,HG.o.2,w.heap.size,vl,rfl,HP.o⟩⟩
end Go.Proofs.YtngnfdnfpiiclaaGreat
namespace Go.Proofs.YtngnfdnfpiiclaaGreat
open Go.RowKit Go.Shelf Go.Sort Go.Lib
def GoodO:={ x:Of // x.may∧0≤x.se∧x.se≤18446744073709551615 }
instance:Inhabited GoodO:=⟨⟨⟨1,1,1,2,1,1,1⟩,by decide⟩⟩
def GoodO.enc(x:GoodO):List Value:=x.1.vals
end Go.Proofs.YtngnfdnfpiiclaaGreat
namespace Go.Proofs.YtngnfdnfpiiclaaGreat
open Go.RowKit
def keptN(l:List Of)(s b:Int)(j:Nat):Nat:=((l.take j).filter (aIq s b)).length
structure DelInv(l d:List Of)(s b:Int)(j:Nat):Prop where
 len:d.length=l.length
 lt:keptN l s b j<j
 low:d.take (keptN l s b j)=(l.take j).filter (aIq s b)
 high:d.drop j=l.drop j
theorem DelInv.get{l d:List Of}{s b:Int}{j:Nat}(h:DelInv l d s b j)(hj:j<l.length):d[j]'(by rw[h.len];exact hj)=l[j]:=by
 have h1:d.drop j=l.drop j:=h.high;have h2:(d.drop j)[0]? = (l.drop j)[0]? := by rw[h1]
 rw[List.getElem?_drop,List.getElem?_drop,Nat.add_zero,List.getElem?_eq_getElem (by rw[h.len];exact hj),List.getElem?_eq_getElem hj]at h2;exact Option.some.inj h2
def signed(neg:Bool)(x:Nat):Int:=if neg then -(x:Int)else x
theorem PB.down12{w:World}{base base' g:Nat}{l:List Of}{N:Int}{vl:Value}(h:PB w base g l N vl)(hb:base'≤base):PB w base' g l N vl:=⟨h.blk,Nat.le_trans hb h.ge,aBo h.row hb⟩
def BCopyPost(base:Nat)(l:List Of)(N:Int)(w:World)(e:Ending)(w':World):Prop:=
 ∃g' vl',e=.returned (.pointer (some ⟨g',0,none⟩))∧PB w' base g' l N vl'∧w.heap.size≤g'∧(∀b,vl'.ownBlock=some b→w.heap.size≤b)∧Below w.heap.size w w'
theorem pcopyB_any{w:World}{base g:Nat}{l:List Of}{N:Int}{vl:Value}(h:PB w base g l N vl)(h1:1≤N)(hl:l.length≤1000):
  Calls Tryz.prog 77 #[.pointer (some ⟨g,0,none⟩)] w (BCopyPost base l N w):=by
 have CM:=yH (pmade_any h.blk h1);have H:=yH h;obtain⟨ao,cap,rfl,_⟩:=aAh h.row;have hgl:=h.blk.lt;have d0:=h.blk.cell 0;have d1:=h.blk.cell 1;simp at d0 d1;have CC:=yH (cloneO_any (w:=w.drew) (aAc h.row yZ.drew) hl);have hbs:=Nat.le_trans h.ge (Nat.le_of_lt hgl);clear h h1;go_enter Tryz.func77,Tryz.ntmps77;go_wp2_with fail;refine CM.o.mono ?_;rintro e w ⟨rfl,rfl⟩;go_wp2_with fail
 go_region_with ((refine CC.o.mono ?_;rintro e w1 ⟨v',rfl,o1,b1⟩;have HO:=yH o1;have HB:=yH b1;have k1:=(H.o.blk.drew).below b1 hgl;have c1:=k1.cell 1;have l1:=k1.lt;simp at c1;obtain⟨ao',cap',hv',_⟩:=aAh o1;subst hv';clear o1 b1 k1))
 all_goals
  go_wp2;refine bodyPost_ret (v:=.pointer (some ⟨w1.heap.size,0,none⟩)) (by simp[results,Tryz.results77,go_sem]) rfl ?_;have bw:=(Below.refl w1.heap.size w1).alloc yL (.cells #[.slice ao' l.length cap',.int .u64 N] 158);exact⟨_,_,rfl,⟨Blk.new _ _ _,Nat.le_trans hbs HB.o.size,aBo (aAc HO.o bw) hbs⟩,HB.o.size,fun b hb=>(aAn HO.o hb).1,(pAA HB.o).trans (bw.mono HB.o.size)⟩
theorem aN8{w:World}{base base':Nat}{e:TypeId}{size:Nat}{v:Value}{n:Nat}{xs:List Value}(h:w.ownsRow base e size v n xs)(hb:∀b,v.ownBlock=some b→base'≤b):w.ownsRow base' e size v n xs:=by
 obtain⟨h1,h2⟩:=h;refine⟨h1,?_⟩;rcases h2 with h2|⟨g,cap,cur,rfl,hge,hr⟩
 ·exact .inl h2
 exact .inr ⟨g,cap,cur,rfl,hb g rfl,hr⟩
theorem hcopy_any:aGl:=by
 intro w base G M gb ps ls l N vb hL hI hP hJ;have hg1:(w.alloc (.cells #[.pointer (some ⟨G,0,none⟩),.pointer (some ⟨gb,0,none⟩)] 80)).heap.size=w.heap.size+1:=by simp
 have b1:=(Below.refl w.heap.size w).alloc yL (.cells #[.pointer (some ⟨G,0,none⟩),.pointer (some ⟨gb,0,none⟩)] 80);have k1:=Blk.new w #[.pointer (some ⟨G,0,none⟩),.pointer (some ⟨gb,0,none⟩)] 80;generalize hW1:w.alloc (.cells #[.pointer (some ⟨G,0,none⟩),.pointer (some ⟨gb,0,none⟩)] 80)=W1 at *;have b2:=(Below.refl W1.heap.size W1).alloc yL (.cells #[.pointer none,.pointer none] 80);have k2:=Blk.new W1 #[.pointer none,.pointer none] 80;rw[hg1]at k2;generalize hW2:W1.alloc (.cells #[.pointer none,.pointer none] 80)=W2 at *;have HW1:=yH hW1;have HW2:=yH hW2;have KX:=yH (k1.below b2 k1.lt);have KF:=yH k2;have CL:=yH (pcopy_any (((hL.below b1).below b2).below (Below.refl _ W2).drew));have HB:=yH (((hP.below b1).below b2).below (Below.refl _ W2).drew);have B1:=yH (b1.trans (b2.mono b1.size));have JJ:=yH hJ;clear hL hI hP hJ b1 b2 k1 k2 hW1 hW2 hg1;go_enter Tryz.func47,Tryz.ntmps47
 go_upto_region 1 with fail
 rw[HW1.o,HW2.o];have e0:=KX.o.cell 0;have e1:=KX.o.cell 1;have kx:=KX.o.lt;have kf:=KF.o.lt;have f0:=KF.o.cell 0;have f1:=KF.o.cell 1;simp at e0 e1 f0 f1
 go_region_with (first|(go_at_call 76;refine CL.o.mono ?_;rintro e w1 ⟨g1,m1,rfl,r1,n1,n2,b1⟩;have KX1:=yH (KX.o.drew.below b1 kx);have KF1:=yH (KF.o.drew.below b1 kf);have R1:=yH r1;have BB:=yH b1;have NN:=yH (And.intro n1 n2);have CB:=yH (pcopyB_any (HB.o.below b1) JJ.o.n1 (by have:=JJ.o.len;omega));clear r1 b1 n1 n2;have c0:=KX1.o.cell 0;have c1:=KX1.o.cell 1;have cx:=KX1.o.lt;simp at c0 c1)|(go_at_call 77;refine CB.o.mono ?_;rintro e w2 ⟨g2,vb2,rfl,r2,n1,n2,b2⟩;have KF2:=yB KF1 b2;have R2:=yH r2;have B2:=yH b2;have NM:=yH (And.intro n1 n2);clear r2 b2 n1 n2;have z0:=KF2.o.cell 0;have z1:=KF2.o.cell 1;have zx:=KF2.o.lt;have zf:=KF2.o.frozen;simp at z0 z1))
 all_goals
  go_wp2;refine bodyPost_ret (v:=.agg #[.pointer (some ⟨g1,0,none⟩),.pointer (some ⟨g2,0,none⟩)]) (results_cell_row rfl _ _ (w.heap.size+1) 80 #[.pointer (some ⟨g1,0,none⟩),.pointer (some ⟨g2,0,none⟩)] (0,0) _ rfl ((KF2.o.set 0 _).set 1 _).out Tryz.underlying80 rfl (by kernel_rfl)) rfl ?_
  have kk:Keep (·=w.heap.size+1) w2 ((w2.setCell ⟨w.heap.size+1,0,none⟩ (.pointer (some ⟨g1,0,none⟩))).setCell ⟨w.heap.size+1,1,none⟩ (.pointer (some ⟨g2,0,none⟩))):=by
   refine Keep.setCell (S:=(·=w.heap.size+1)) ?_ (p:=⟨w.heap.size+1,1,none⟩) (.inl rfl) _;exact Keep.setCell (S:=(·=w.heap.size+1)) (Keep.refl _ _) (p:=⟨w.heap.size+1,0,none⟩) (.inl rfl) _
  have s1:=B1.o.size;have s2:=BB.o.size;obtain⟨n1,n2⟩:=NN.o;obtain⟨m1,m2⟩:=NM.o;have hd:W2.drew.heap.size=W2.heap.size:=rfl;rw[hd]at s2 n1 n2;have R3:=R2.o.keep kk (by omega) (fun b h=>by have:=m2 b h;omega)
  exact⟨_,_,_,_,rfl,(R1.o.below B2.o).keep kk (by omega) (by omega),⟨R3.blk,by omega,aN8 R3.row (fun b hb=>by have:=m2 b hb;omega)⟩,by omega,by omega,
   (B1.o.trans (((pAA BB.o).trans (B2.o.mono s2)).mono s1)).trans (kk.below (by omega) (fun k hk h=>by omega))⟩
abbrev SwK(g:Nat)(W w':World):Prop:=Keep (fun j=>g<j∧j<g+4) W w'
theorem SwK.st{W w:World}{g:Nat}(h:SwK g W w)(j:Nat)(hj:g<j∧j<g+4)(v:Value):SwK g W (w.setCell ⟨j,0,none⟩ v):=Keep.setCell h (.inl hj) v
end Go.Proofs.YtngnfdnfpiiclaaGreat
namespace Go.Proofs.YtngnfdnfpiiclaaGreat
open Go.RowKit Go.Shelf Go.Sort Go.Lib
instance:Inhabited Fw:=⟨⟨0,0,0⟩⟩
end Go.Proofs.YtngnfdnfpiiclaaGreat
namespace Go.Proofs.YtngnfdnfpiiclaaGreat
open Go.RowKit Go.Shelf Go.Lib
open Go.Sort (grow flatK putCells HoldsK PermIn SortedIn SWO)
end Go.Proofs.YtngnfdnfpiiclaaGreat
namespace Go.Proofs.YtngnfdnfpiiclaaGreat
open Go.RowKit
structure V5 where
 a:Value
 b:Value
 c:Value
 d:Value
 e:Value
structure GV where
 g:Nat
 v:V5
def noV:V5:=⟨undef,undef,undef,undef,undef⟩
def LayI(c d e:Nat)(W:World)(T:TypeId)(zs:Array Value)(cs:V5→Array Value)(R:V5→World→Prop)(s:GV)(D:Nat→Bool)(w:World):Prop:=
 Below W.heap.size W w∧(D c=true→R s.v w)∧(D d=true→W.heap.size≤s.g∧Blk w s.g (if D e=true then cs s.v else zs) T)
section
variable{c d e:Nat}{W w w':World}{T:TypeId}{zs:Array Value}{cs:V5→Array Value}{R:V5→World→Prop}{s:GV}{D:Nat→Bool}
theorem LayI.start:LayI c d e W T zs cs R s (fun _=>false) W.drew:=⟨yZ.drew,fun h=>(Bool.false_ne_true h).elim,fun h=>(Bool.false_ne_true h).elim⟩
theorem aF1{k j:Nat}(h:j≠k):ins k D j=D j:=by simp[ins,h]
theorem insC_eq(k:Nat):ins k D k=true:=by simp[ins]
theorem LayI.keep(h:LayI c d e W T zs cs R s D w)(k:Nat)(hk:c≠k∧d≠k∧e≠k):LayI c d e W T zs cs R s (ins k D) w:=by
 unfold LayI at h ⊢;rw[aF1 hk.1,aF1 hk.2.1,aF1 hk.2.2];exact h
theorem LayI.call(h:LayI c d e W T zs cs R s D w)(hk:d≠c∧e≠c)(he:D e=false)(x:V5)(hR:R x w')(hb:Below w.heap.size w w'):LayI c d e W T zs cs R ⟨s.g,x⟩ (ins c D) w':=by
 refine⟨andB h.1 hb,fun _=>hR,fun q=>?_⟩;rw[aF1 hk.1]at q;obtain⟨h1,h2⟩:=h.2.2 q;rw[he]at h2;rw[aF1 hk.2,he];exact⟨h1,h2.below hb h2.lt⟩
theorem LayI.lay(h:LayI c d e W T zs cs R s D w)(hk:c≠d∧e≠d)(he:D e=false)(hl:∀x w w',R x w→Below w.heap.size w w'→R x w'):LayI c d e W T zs cs R ⟨w.heap.size,s.v⟩ (ins d D) (w.alloc (.cells zs T)):=by
 have b:=(Below.refl w.heap.size w).alloc yL (.cells zs T);refine⟨andB h.1 b,fun q=>?_,fun _=>⟨h.1.size,?_⟩⟩
 ·rw[aF1 hk.1]at q;exact hl _ _ _ (h.2.1 q) b
 rw[aF1 hk.2,he];exact Blk.new _ _ _
theorem LayI.fill(h:LayI c d e W T zs cs R s D w)(hk:c≠e∧d≠e)(hc:D c=true)(hd:D d=true)(he:D e=false)(hl:∀x w g,R x w→Blk w g zs T→R x (w.setRow g (cs x))):LayI c d e W T zs cs R s (ins e D) (w.setRow s.g (cs s.v)):=by
 obtain⟨h1,h2⟩:=h.2.2 hd;rw[he]at h2;refine⟨below_setRow h.1 h1 _,fun _=>hl _ _ _ (h.2.1 hc) h2,fun _=>⟨h1,?_⟩⟩;rw[if_pos (insC_eq e)];exact setRow_heap w s.g _ (cs s.v) T (0,0) h2
theorem LayI.res(h:LayI c d e W T zs cs R s D w)(hc:D c=true):R s.v w:=h.2.1 hc
theorem LayI.old(h:LayI c d e W T zs cs R s D w):Below W.heap.size W w:=h.1
theorem leftBy_of{af a':Act}{o:Oper}{Q:Value→World→Prop}{w:World}(v:Value)(hv:a'=af.put o.dst v)(h:Q v w):LeftBy af o Q a' w:=⟨v,hv,h⟩
theorem LayI.blk(h:LayI c d e W T zs cs R s D w)(hd:D d=true)(he:D e=false):Blk w s.g zs T:=by
 have h2:=(h.2.2 hd).2
 rwa [he]at h2
end
structure MM(w:World)(D:Nat→Prop)(k G M gb:Nat)(vb:Value)(σ:Hs):Prop where
 blk:Blk w k #[.pointer (some ⟨G,0,none⟩),.pointer (some ⟨gb,0,none⟩)] 82
 led:LedM w G M σ.ps σ.ls
 pb:PB w 0 gb σ.l σ.N vb
 dk:D k
 dg:D G
 dm:D M
 db:∀j,Foot gb vb j→D j
def MIs(D:Nat→Prop)(w:World)(k:Nat)(σ:Hs):Prop:=∃G M gb vb,MM w D k G M gb vb σ
def aFj(D:Nat→Prop)(w:World):Prop:=∀j,w.heap.size≤j→D j
theorem aFj.of_le{D:Nat→Prop}{w w':World}(h:aFj D w)(hs:w.heap.size≤w'.heap.size):aFj D w':=fun j hj=>h j (Nat.le_trans hs hj)
section
variable{w w':World}{D:Nat→Prop}{k G M gb:Nat}{vb:Value}{σ:Hs}
theorem MM.below(h:MM w D k G M gb vb σ)(q:Below w.heap.size w w'):MM w' D k G M gb vb σ:=⟨h.blk.below q h.blk.lt,h.led.below q,h.pb.below q,h.dk,h.dg,h.dm,h.db⟩
theorem MM.apart(h:MM w D k G M gb vb σ):k≠G∧k≠M∧¬Foot gb vb k:=by
 refine⟨aAy h.blk h.led.blk (by decide),fun e=>h.led.map.ne_blk h.blk e.symm,fun e=>?_⟩;rcases e with e|e
 ·exact aAy h.blk h.pb.blk (by decide) e
 exact aBz h.pb.row h.blk (by decide) k e rfl
theorem MM.ledBook(h:MM w D k G M gb vb σ):(¬Foot gb vb G∧¬Foot gb vb M):=by
 refine⟨fun e=>?_,fun e=>?_⟩
 ·rcases e with e|e
  ·exact aAy h.led.blk h.pb.blk (by decide) e
  exact aBz h.pb.row h.led.blk (by decide) G e rfl
 rcases e with e|e
 ·exact h.led.map.ne_blk h.pb.blk e
 obtain⟨_,_,cur,hc⟩:=aAn h.pb.row e;exact h.led.map.ne_blk (show Blk w M cur 197 from hc) rfl
theorem MM.ledger{S:Nat→Prop}{ps:List Int}{ls:List Ln}(h:MM w D k G M gb vb σ)(hl:LedM w' G M ps ls)(q:Keep S w w')(hS:∀j,S j→j=G∨j=M):MM w' D k G M gb vb ⟨ps,ls,σ.l,σ.N⟩∧Keep D w w':=by
 obtain⟨a1,a2,_⟩:=h.apart;obtain⟨c1,c2⟩:=h.ledBook
 have n1:∀j,Foot gb vb j→¬S j:=fun j hf hj=>by
  rcases hS j hj with rfl|rfl
  ·exact c1 hf
  exact c2 hf
 refine⟨⟨h.blk.keep q (fun e=>by rcases hS k e with e|e;exact a1 e;exact a2 e),hl,h.pb.keep q (n1 _ (.inl rfl)) (fun b hb=>n1 b (.inr hb)),h.dk,h.dg,h.dm,h.db⟩,q.mono fun j _ e=>?_⟩;rcases hS j e with rfl|rfl
 ·exact h.dg
 exact h.dm
theorem MM.book{vb':Value}{l:List Of}{N:Int}(h:MM w D k G M gb vb σ)(hD:aFj D w)(hp:PB w' 0 gb l N vb')(q:Keep (Foot gb vb) w w')(hv:Moved w vb vb'):MM w' D k G M gb vb' ⟨σ.ps,σ.ls,l,N⟩∧Keep D w w':=by
 obtain⟨_,_,a3⟩:=h.apart;obtain⟨c1,c2⟩:=h.ledBook;refine⟨⟨h.blk.keep q a3,h.led.keep q c1 c2,hp,h.dk,h.dg,h.dm,fun j hj=>?_⟩,q.mono fun j _ e=>h.db j e⟩;rcases hj with hj|hj
 ·exact h.db j (.inl hj)
 rcases hv j hj with e|e
 ·exact h.db j (.inr e)
 exact hD j e
theorem MM.same(h:MM w D k G M gb vb σ)(q:Below w.heap.size w w'):MM w' D k G M gb vb σ∧Keep D w w':=⟨h.below q,pAD q⟩
theorem MM.house{w2:World}{G' M' gb':Nat}{vb':Value}{τ:Hs}(h:MM w D k G M gb vb σ)(hD:aFj D w)(q:Below w.heap.size w w2)(hl:LedM w2 G' M' τ.ps τ.ls)(hp:PB w2 w.heap.size gb' τ.l τ.N vb')(hg:w.heap.size≤G')(hm:w.heap.size≤M')
  (k2:Keep (·=k) w2 w')(hb:Blk w' k #[.pointer (some ⟨G',0,none⟩),.pointer (some ⟨gb',0,none⟩)] 82):MM w' D k G' M' gb' vb' τ∧Keep D w w':=by
 have hk:=h.blk.lt;have hf:∀j,Foot gb' vb' j→w.heap.size≤j:=fun j hj=>(hp.lt hj).1
 refine⟨⟨hb,hl.keep k2 (by omega) (by omega),(hp.down12 (Nat.zero_le _)).keep k2 (fun e=>by have:=hf gb' (.inl rfl);omega) (fun b hb e=>by have:=hf b (.inr hb);omega),h.dk,hD _ hg,hD _ hm,fun j hj=>hD _ (hf j hj)⟩,(pAD q).trans_new k2 (fun j _ e=>by rw[e];exact h.dk)⟩
theorem mm_on{w2:World}{τ:Hs}{vb':Value}(q:Below w.heap.size w w2){W:World}(b:Keep D W w)(h:MM w' D k G M gb vb' τ∧Keep D w2 w'):MM w' D k G M gb vb' τ∧Keep D W w':=⟨h.1,(b.trans (pAD q)).trans h.2⟩
theorem mbox(h:MM w D k G M gb vb σ)(hD:aFj D w)(cs:Array Value)(t:TypeId):Hid (Blk (w.alloc (.cells cs t)) w.heap.size cs t)∧Hid (MM (w.alloc (.cells cs t)) D k G M gb vb σ)∧Hid (Keep D w (w.alloc (.cells cs t)))∧Hid (aFj D (w.alloc (.cells cs t))):=
 have b:=(Below.refl w.heap.size w).alloc yL (.cells cs t)
 ⟨yH (Blk.new w cs t),yH (h.below b),yH (pAD b),yH (hD.of_le b.size)⟩
def aC7(w:World)(D:Nat→Prop)(k:Nat)(σ:Hs)(s:Stp)(e:Ending)(w':World):Prop:=
 e=.returned (.tuple #[.int .i64 (aBg σ s).2.1.gx,.int .i64 (aBg σ s).2.1.gy,.int .i64 (aBg σ s).2.2])∧MIs D w' k (aBg σ s).1∧Keep D w w'
theorem Once.keep{c:Nat}{S T:World→Prop}{D:Nat→Bool}{w:World}{k:Nat}(hk:k≠c)(h:Once c S T D w):Once c S T (ins k D) w:=by
 have e:ins k D c=D c:=by simp[ins,Ne.symm hk]
 exact⟨fun d=>h.1 (e ▸ d),fun d=>h.2 (e ▸ d)⟩
theorem aC7.of{τ:Hs}{s:Stp}{x y er:Int}{e:Ending}(hs:aBg σ s=(τ,⟨x,y⟩,er))(he:e=.returned (.tuple #[.int .i64 x,.int .i64 y,.int .i64 er]))(h:MM w' D k G M gb vb τ∧Keep D w w'):aC7 w D k σ s e w':=by
 unfold aC7;rw[hs];exact⟨he,⟨_,_,_,_,h.1⟩,h.2⟩
theorem mopen_any(h:MM w D k G M gb vb σ)(hD:aFj D w)(hi:HInv σ){a b c d n mx nu de se:Int}(hs:Stp.Fits ⟨1,a,b,c,d,n,mx,nu,de,se⟩):
  Calls Tryz.prog 115 #[.pointer (some ⟨k,0,none⟩),.agg #[.int .u8 1,.int .u8 a,.int .u8 b,.int .u8 c,.int .u8 d,.int .i64 n,.int .i64 mx,.int .i64 nu,.int .i64 de,.int .u64 se]] w (aC7 w D k σ ⟨1,a,b,c,d,n,mx,nu,de,se⟩):=by
 obtain⟨KS,H1,BX,LT⟩:=mbox h hD #[.int .u8 1,.int .u8 a,.int .u8 b,.int .u8 c,.int .u8 d,.int .i64 n,.int .i64 mx,.int .i64 nu,.int .i64 de,.int .u64 se] 87;have II:=yH hi;have FF:=yH hs;have SF:Hid (aBg σ ⟨1,a,b,c,d,n,mx,nu,de,se⟩=(⟨aCb σ.ps a,σ.ls,σ.l,σ.N⟩,⟨0,0⟩,aCa σ.ps a)):=yH rfl;clear h hD hi hs;go_enter Tryz.func115,Tryz.ntmps115
 go_upto_region 1 with fail
 generalize w.alloc (.cells #[.int .u8 1,.int .u8 a,.int .u8 b,.int .u8 c,.int .u8 d,.int .i64 n,.int .i64 mx,.int .i64 nu,.int .i64 de,.int .u64 se] 87)=W at *;have m0:=H1.o.blk.cell 0;have m1:=H1.o.blk.cell 1;have ml:=H1.o.blk.lt;have sl:=KS.o.lt;have s1:=KS.o.cell 1;simp at m0 m1 s1;refine aA4 (by kernel_rfl) [.pointer (some ⟨k,0,none⟩),.pointer (some ⟨k,0,none⟩),.pointer (some ⟨k,0,none⟩),.pointer (some ⟨k,0,none⟩),.pointer (some ⟨G,0,none⟩),.pointer (some ⟨w.heap.size,1,none⟩),.int .u8 a,.int .i64 (aCa σ.ps a),.int .i64 0,.int .i64 0,.int .i64 (aCa σ.ps a)] (Once 7 (fun w'=>Below W.heap.size W w'∧w'.cell? ⟨k,0,none⟩=some (.pointer (some ⟨G,0,none⟩))∧w'.cell? ⟨w.heap.size,1,none⟩=some (.int .u8 a)) (fun w''=>∃w',Below W.heap.size W w'∧LedM w'' G M (aCb σ.ps a) (σ.ls)∧Keep (·=G) w' w'')) (by kernel_rfl) (Once.start ⟨yZ.drew,m0,s1⟩) ?_;intro af haf;simp only[yG,List.append_eq,List.cons_append,List.nil_append,puts,Act.put,yA,yC,yF,yD,yE]at haf;subst haf;refine⟨?_,?_⟩
 ·simp only[yG,List.append_eq,List.cons_append,List.nil_append,aCd];refine⟨?_,?_,?_,?_,?_,?_,?_,?_,?_,?_,?_,trivial⟩
  iterate 7 (· intro D w' hD hW hC hI;have hN:D 7=false:=aAa hC hD 7 (by kernel_rfl);have hS:=hI.pre hN;refine yO ?_ ?_;exact rfl;have HS:=yH (fun k (hk:k≠7)=>Once.keep (k:=k) hk hI);obtain⟨hb,t0,t1⟩:=hS;have l0:=yM ml hb.size;have l1:=yM sl hb.size;clear hI hN hC hW hD hb;go_wp2_with fail;all_goals first|exact HS.o _ (by decide)|exact⟨rfl,HS.o _ (by decide)⟩|rfl)
  ·intro D w' hD hW hC hI;obtain⟨hb,t0,t1⟩:=hI.pre hD;refine yO ?_ ?_;exact rfl;have HC:=yH (open_any (H1.o.below hb).led II.o.li.bd a);have HBB:=yH hb;clear hI hC hW hD hb;go_wp2_with fail;refine HC.o.mono ?_;rintro e w'' ⟨rfl,hT⟩;exact⟨rfl,Once.done ⟨_,HBB.o,hT⟩⟩
  iterate 3 (· intro D w' hD hW hC hI;have HS:=yH (fun k (hk:k≠7)=>Once.keep (k:=k) hk hI);refine yO ?_ ?_;exact rfl;clear hI hC hW hD;go_wp2_with fail;all_goals first|exact HS.o _ (by decide)|exact⟨rfl,HS.o _ (by decide)⟩|rfl)
 intro DD w1 hall hI;have hT:=hI.post (hall 7 (by decide));clear hI hall;obtain⟨w2,hb,l1,k1⟩:=hT;go_wp2_with fail;refine bodyPost_ret (v:=.tuple #[.int .i64 0,.int .i64 0,.int .i64 (aCa σ.ps a)]) (by simp[results,Tryz.results115,go_sem]) rfl ?_;exact aC7.of SF.o rfl (mm_on hb BX.o ((H1.o.below hb).ledger l1 k1 (fun j e=>.inl e)))
theorem mtrust_any(h:MM w D k G M gb vb σ)(hD:aFj D w)(hi:HInv σ){a b c d n mx nu de se:Int}(hs:Stp.Fits ⟨2,a,b,c,d,n,mx,nu,de,se⟩):
  Calls Tryz.prog 116 #[.pointer (some ⟨k,0,none⟩),.agg #[.int .u8 2,.int .u8 a,.int .u8 b,.int .u8 c,.int .u8 d,.int .i64 n,.int .i64 mx,.int .i64 nu,.int .i64 de,.int .u64 se]] w (aC7 w D k σ ⟨2,a,b,c,d,n,mx,nu,de,se⟩):=by
 obtain⟨KS,H1,BX,LT⟩:=mbox h hD #[.int .u8 2,.int .u8 a,.int .u8 b,.int .u8 c,.int .u8 d,.int .i64 n,.int .i64 mx,.int .i64 nu,.int .i64 de,.int .u64 se] 87;have II:=yH hi;have FF:=yH hs;have SF:Hid (aBg σ ⟨2,a,b,c,d,n,mx,nu,de,se⟩=(⟨σ.ps,aAj σ.ps σ.ls a b c n,σ.l,σ.N⟩,⟨0,0⟩,aAi σ.ps σ.ls a b c n)):=yH rfl;clear h hD hi hs;go_enter Tryz.func116,Tryz.ntmps116
 go_upto_region 1 with fail
 generalize w.alloc (.cells #[.int .u8 2,.int .u8 a,.int .u8 b,.int .u8 c,.int .u8 d,.int .i64 n,.int .i64 mx,.int .i64 nu,.int .i64 de,.int .u64 se] 87)=W at *;have m0:=H1.o.blk.cell 0;have m1:=H1.o.blk.cell 1;have ml:=H1.o.blk.lt;have sl:=KS.o.lt;have s1:=KS.o.cell 1;have s2:=KS.o.cell 2;have s3:=KS.o.cell 3;have s5:=KS.o.cell 5;simp at m0 m1 s1 s2 s3 s5;refine aA4 (by kernel_rfl) [.pointer (some ⟨k,0,none⟩),.pointer (some ⟨k,0,none⟩),.pointer (some ⟨k,0,none⟩),.pointer (some ⟨k,0,none⟩),.pointer (some ⟨G,0,none⟩),.pointer (some ⟨w.heap.size,1,none⟩),.int .u8 a,.pointer (some ⟨w.heap.size,2,none⟩),.int .u8 b,.pointer (some ⟨w.heap.size,3,none⟩),.int .u8 c,.pointer (some ⟨w.heap.size,5,none⟩),.int .i64 n,.int .i64 (aAi σ.ps σ.ls a b c n),.int .i64 0,.int .i64 0,.int .i64 (aAi σ.ps σ.ls a b c n)] (Once 13 (fun w'=>Below W.heap.size W w'∧w'.cell? ⟨k,0,none⟩=some (.pointer (some ⟨G,0,none⟩))∧w'.cell? ⟨w.heap.size,1,none⟩=some (.int .u8 a)∧w'.cell? ⟨w.heap.size,2,none⟩=some (.int .u8 b)∧w'.cell? ⟨w.heap.size,3,none⟩=some (.int .u8 c)∧w'.cell? ⟨w.heap.size,5,none⟩=some (.int .i64 n)) (fun w''=>∃w',Below W.heap.size W w'∧LedM w'' G M (σ.ps) (aAj σ.ps σ.ls a b c n)∧Keep (·=M) w' w'')) (by kernel_rfl) (Once.start ⟨yZ.drew,m0,s1,s2,s3,s5⟩) ?_;intro af haf;simp only[yG,List.append_eq,List.cons_append,List.nil_append,puts,Act.put,yA,yC,yF,yD,yE]at haf;subst haf;refine⟨?_,?_⟩
 ·simp only[yG,List.append_eq,List.cons_append,List.nil_append,aCd];refine⟨?_,?_,?_,?_,?_,?_,?_,?_,?_,?_,?_,?_,?_,?_,?_,?_,?_,trivial⟩
  iterate 13 (· intro D w' hD hW hC hI;have hN:D 13=false:=aAa hC hD 13 (by kernel_rfl);have hS:=hI.pre hN;refine yO ?_ ?_;exact rfl;have HS:=yH (fun k (hk:k≠13)=>Once.keep (k:=k) hk hI);obtain⟨hb,t0,t1,t2,t3,t4⟩:=hS;have l0:=yM ml hb.size;have l1:=yM sl hb.size;clear hI hN hC hW hD hb;go_wp2_with fail;all_goals first|exact HS.o _ (by decide)|exact⟨rfl,HS.o _ (by decide)⟩|rfl)
  ·intro D w' hD hW hC hI;obtain⟨hb,t0,t1,t2,t3,t4⟩:=hI.pre hD;refine yO ?_ ?_;exact rfl;have HC:=yH (ptrust_any (H1.o.below hb).led II.o.li FF.o.a FF.o.b FF.o.c (n:=n));have HBB:=yH hb;clear hI hC hW hD hb;go_wp2_with fail;refine HC.o.mono ?_;rintro e w'' ⟨rfl,hT⟩;exact⟨rfl,Once.done ⟨_,HBB.o,hT⟩⟩
  iterate 3 (· intro D w' hD hW hC hI;have HS:=yH (fun k (hk:k≠13)=>Once.keep (k:=k) hk hI);refine yO ?_ ?_;exact rfl;clear hI hC hW hD;go_wp2_with fail;all_goals first|exact HS.o _ (by decide)|exact⟨rfl,HS.o _ (by decide)⟩|rfl)
 intro DD w1 hall hI;have hT:=hI.post (hall 13 (by decide));clear hI hall;obtain⟨w2,hb,l1,k1⟩:=hT;go_wp2_with fail;refine bodyPost_ret (v:=.tuple #[.int .i64 0,.int .i64 0,.int .i64 (aAi σ.ps σ.ls a b c n)]) (by simp[results,Tryz.results116,go_sem]) rfl ?_;exact aC7.of SF.o rfl (mm_on hb BX.o ((H1.o.below hb).ledger l1 k1 (fun j e=>.inr e)))
theorem mpay_any(HR:aD0)(h:MM w D k G M gb vb σ)(hD:aFj D w)(hi:HInv σ){a b c d n mx nu de se:Int}(hs:Stp.Fits ⟨3,a,b,c,d,n,mx,nu,de,se⟩):
  Calls Tryz.prog 117 #[.pointer (some ⟨k,0,none⟩),.agg #[.int .u8 3,.int .u8 a,.int .u8 b,.int .u8 c,.int .u8 d,.int .i64 n,.int .i64 mx,.int .i64 nu,.int .i64 de,.int .u64 se]] w (aC7 w D k σ ⟨3,a,b,c,d,n,mx,nu,de,se⟩):=by
 obtain⟨KS,H1,BX,LT⟩:=mbox h hD #[.int .u8 3,.int .u8 a,.int .u8 b,.int .u8 c,.int .u8 d,.int .i64 n,.int .i64 mx,.int .i64 nu,.int .i64 de,.int .u64 se] 87;have II:=yH hi;have FF:=yH hs;have SF:Hid (aBg σ ⟨3,a,b,c,d,n,mx,nu,de,se⟩=(⟨σ.ps,paidS σ.ps σ.ls a b c n,σ.l,σ.N⟩,⟨payN σ.ps a b c n (aBk (aAu σ.ps σ.ls c) a b n),0⟩,payE σ.ps a b c n (aBk (aAu σ.ps σ.ls c) a b n))):=yH rfl;clear h hD hi hs;go_enter Tryz.func117,Tryz.ntmps117
 go_upto_region 1 with fail
 generalize w.alloc (.cells #[.int .u8 3,.int .u8 a,.int .u8 b,.int .u8 c,.int .u8 d,.int .i64 n,.int .i64 mx,.int .i64 nu,.int .i64 de,.int .u64 se] 87)=W at *;have m0:=H1.o.blk.cell 0;have m1:=H1.o.blk.cell 1;have ml:=H1.o.blk.lt;have sl:=KS.o.lt;have s1:=KS.o.cell 1;have s2:=KS.o.cell 2;have s3:=KS.o.cell 3;have s5:=KS.o.cell 5;simp at m0 m1 s1 s2 s3 s5;refine aA4 (by kernel_rfl) [.pointer (some ⟨k,0,none⟩),.pointer (some ⟨k,0,none⟩),.pointer (some ⟨k,0,none⟩),.pointer (some ⟨k,0,none⟩),.pointer (some ⟨G,0,none⟩),.pointer (some ⟨w.heap.size,1,none⟩),.int .u8 a,.pointer (some ⟨w.heap.size,2,none⟩),.int .u8 b,.pointer (some ⟨w.heap.size,3,none⟩),.int .u8 c,.pointer (some ⟨w.heap.size,5,none⟩),.int .i64 n,.tuple #[.int .i64 (payN σ.ps a b c n (aBk (aAu σ.ps σ.ls c) a b n)),.int .i64 (payE σ.ps a b c n (aBk (aAu σ.ps σ.ls c) a b n))],.tuple #[.int .i64 (payN σ.ps a b c n (aBk (aAu σ.ps σ.ls c) a b n)),.int .i64 (payE σ.ps a b c n (aBk (aAu σ.ps σ.ls c) a b n))],.int .i64 (payN σ.ps a b c n (aBk (aAu σ.ps σ.ls c) a b n)),.int .i64 (payE σ.ps a b c n (aBk (aAu σ.ps σ.ls c) a b n)),.int .i64 (payN σ.ps a b c n (aBk (aAu σ.ps σ.ls c) a b n)),.int .i64 (payE σ.ps a b c n (aBk (aAu σ.ps σ.ls c) a b n))] (Once 13 (fun w'=>Below W.heap.size W w'∧w'.cell? ⟨k,0,none⟩=some (.pointer (some ⟨G,0,none⟩))∧w'.cell? ⟨w.heap.size,1,none⟩=some (.int .u8 a)∧w'.cell? ⟨w.heap.size,2,none⟩=some (.int .u8 b)∧w'.cell? ⟨w.heap.size,3,none⟩=some (.int .u8 c)∧w'.cell? ⟨w.heap.size,5,none⟩=some (.int .i64 n)) (fun w''=>∃w',Below W.heap.size W w'∧LedM w'' G M (σ.ps) (paidS σ.ps σ.ls a b c n)∧Keep (·=M) w' w'')) (by kernel_rfl) (Once.start ⟨yZ.drew,m0,s1,s2,s3,s5⟩) ?_;intro af haf;simp only[yG,List.append_eq,List.cons_append,List.nil_append,puts,Act.put,yA,yC,yF,yD,yE]at haf;subst haf;refine⟨?_,?_⟩
 ·simp only[yG,List.append_eq,List.cons_append,List.nil_append,aCd];refine⟨?_,?_,?_,?_,?_,?_,?_,?_,?_,?_,?_,?_,?_,?_,?_,?_,?_,?_,?_,trivial⟩
  iterate 13 (· intro D w' hD hW hC hI;have hN:D 13=false:=aAa hC hD 13 (by kernel_rfl);have hS:=hI.pre hN;refine yO ?_ ?_;exact rfl;have HS:=yH (fun k (hk:k≠13)=>Once.keep (k:=k) hk hI);obtain⟨hb,t0,t1,t2,t3,t4⟩:=hS;have l0:=yM ml hb.size;have l1:=yM sl hb.size;clear hI hN hC hW hD hb;go_wp2_with fail;all_goals first|exact HS.o _ (by decide)|exact⟨rfl,HS.o _ (by decide)⟩|rfl)
  ·intro D w' hD hW hC hI;obtain⟨hb,t0,t1,t2,t3,t4⟩:=hI.pre hD;refine yO ?_ ?_;exact rfl;have HC:=yH (ppay_any HR (H1.o.below hb).led II.o.li FF.o.a FF.o.b FF.o.c FF.o.n (aBy (aA3 II.o.li c) a b n));have HBB:=yH hb;clear hI hC hW hD hb;go_wp2_with fail;refine HC.o.mono ?_;rintro e w'' ⟨rfl,hT⟩;exact⟨rfl,Once.done ⟨_,HBB.o,hT⟩⟩
  iterate 5 (· intro D w' hD hW hC hI;have HS:=yH (fun k (hk:k≠13)=>Once.keep (k:=k) hk hI);refine yO ?_ ?_;exact rfl;clear hI hC hW hD;go_wp2_with fail;all_goals first|exact HS.o _ (by decide)|exact⟨rfl,HS.o _ (by decide)⟩|rfl)
 intro DD w1 hall hI;have hT:=hI.post (hall 13 (by decide));clear hI hall;obtain⟨w2,hb,l1,k1⟩:=hT;go_wp2_with fail;refine bodyPost_ret (v:=.tuple #[.int .i64 (payN σ.ps a b c n (aBk (aAu σ.ps σ.ls c) a b n)),.int .i64 0,.int .i64 (payE σ.ps a b c n (aBk (aAu σ.ps σ.ls c) a b n))]) (by simp[results,Tryz.results117,go_sem]) rfl ?_;exact aC7.of SF.o rfl (mm_on hb BX.o ((H1.o.below hb).ledger l1 k1 (fun j e=>.inr e)))
theorem aK7(h:MM w D k G M gb vb σ)(hD:aFj D w)(hi:HInv σ){a b c d n mx nu de se:Int}(hs:Stp.Fits ⟨9,a,b,c,d,n,mx,nu,de,se⟩):
  Calls Tryz.prog 123 #[.pointer (some ⟨k,0,none⟩),.agg #[.int .u8 9,.int .u8 a,.int .u8 b,.int .u8 c,.int .u8 d,.int .i64 n,.int .i64 mx,.int .i64 nu,.int .i64 de,.int .u64 se]] w (aC7 w D k σ ⟨9,a,b,c,d,n,mx,nu,de,se⟩):=by
 obtain⟨KS,H1,BX,LT⟩:=mbox h hD #[.int .u8 9,.int .u8 a,.int .u8 b,.int .u8 c,.int .u8 d,.int .i64 n,.int .i64 mx,.int .i64 nu,.int .i64 de,.int .u64 se] 87;have II:=yH hi;have FF:=yH hs;have SF:Hid (aBg σ ⟨9,a,b,c,d,n,mx,nu,de,se⟩=(σ,⟨posL σ.ls a c,0⟩,0)):=yH rfl;clear h hD hi hs;go_enter Tryz.func123,Tryz.ntmps123
 go_upto_region 1 with fail
 generalize w.alloc (.cells #[.int .u8 9,.int .u8 a,.int .u8 b,.int .u8 c,.int .u8 d,.int .i64 n,.int .i64 mx,.int .i64 nu,.int .i64 de,.int .u64 se] 87)=W at *;have m0:=H1.o.blk.cell 0;have m1:=H1.o.blk.cell 1;have ml:=H1.o.blk.lt;have sl:=KS.o.lt;have s1:=KS.o.cell 1;have s3:=KS.o.cell 3;simp at m0 m1 s1 s3;refine aA4 (by kernel_rfl) [.pointer (some ⟨k,0,none⟩),.pointer (some ⟨k,0,none⟩),.pointer (some ⟨k,0,none⟩),.pointer (some ⟨k,0,none⟩),.pointer (some ⟨G,0,none⟩),.pointer (some ⟨w.heap.size,1,none⟩),.int .u8 a,.pointer (some ⟨w.heap.size,3,none⟩),.int .u8 c,.int .i64 (posL σ.ls a c),.int .i64 (posL σ.ls a c),.int .i64 0,.int .i64 0] (Once 9 (fun w'=>Below W.heap.size W w'∧w'.cell? ⟨k,0,none⟩=some (.pointer (some ⟨G,0,none⟩))∧w'.cell? ⟨w.heap.size,1,none⟩=some (.int .u8 a)∧w'.cell? ⟨w.heap.size,3,none⟩=some (.int .u8 c)) (fun w''=>Below W.heap.size W w'')) (by kernel_rfl) (Once.start ⟨yZ.drew,m0,s1,s3⟩) ?_;intro af haf;simp only[yG,List.append_eq,List.cons_append,List.nil_append,puts,Act.put,yA,yC,yF,yD,yE]at haf;subst haf;refine⟨?_,?_⟩
 ·simp only[yG,List.append_eq,List.cons_append,List.nil_append,aCd];refine⟨?_,?_,?_,?_,?_,?_,?_,?_,?_,?_,?_,?_,?_,trivial⟩
  iterate 9 (· intro D w' hD hW hC hI;have hN:D 9=false:=aAa hC hD 9 (by kernel_rfl);have hS:=hI.pre hN;refine yO ?_ ?_;exact rfl;have HS:=yH (fun k (hk:k≠9)=>Once.keep (k:=k) hk hI);obtain⟨hb,t0,t1,t2⟩:=hS;have l0:=yM ml hb.size;have l1:=yM sl hb.size;clear hI hN hC hW hD hb;go_wp2_with fail;all_goals first|exact HS.o _ (by decide)|exact⟨rfl,HS.o _ (by decide)⟩|rfl)
  ·intro D w' hD hW hC hI;obtain⟨hb,t0,t1,t2⟩:=hI.pre hD;refine yO ?_ ?_;exact rfl;have HC:=yH (ppos_any (H1.o.below hb).led II.o.li a c);have HBB:=yH hb;clear hI hC hW hD hb;go_wp2_with fail;refine HC.o.mono ?_;rintro e w'' ⟨rfl,hT⟩;exact⟨rfl,Once.done (andB HBB.o hT)⟩
  iterate 3 (· intro D w' hD hW hC hI;have HS:=yH (fun k (hk:k≠9)=>Once.keep (k:=k) hk hI);refine yO ?_ ?_;exact rfl;clear hI hC hW hD;go_wp2_with fail;all_goals first|exact HS.o _ (by decide)|exact⟨rfl,HS.o _ (by decide)⟩|rfl)
 intro DD w1 hall hI;have hT:=hI.post (hall 9 (by decide));clear hI hall;go_wp2_with fail;refine bodyPost_ret (v:=.tuple #[.int .i64 (posL σ.ls a c),.int .i64 0,.int .i64 0]) (by simp[results,Tryz.results123,go_sem]) rfl ?_;exact aC7.of SF.o rfl ⟨H1.o.below hT,BX.o.trans (pAD hT)⟩
theorem lineV_eq(l:Option Ln):lineV l=.tuple #[.agg #[.int .u8 (l.getD noLn).cr,.int .u8 (l.getD noLn).de,.int .u8 (l.getD noLn).cu,.int .i64 (l.getD noLn).li,.int .i64 (l.getD noLn).db],.bool l.isSome]:=by cases l <;> rfl
theorem mdebt_any(h:MM w D k G M gb vb σ)(hD:aFj D w)(hi:HInv σ){a b c d n mx nu de se:Int}(hs:Stp.Fits ⟨8,a,b,c,d,n,mx,nu,de,se⟩):
  Calls Tryz.prog 122 #[.pointer (some ⟨k,0,none⟩),.agg #[.int .u8 8,.int .u8 a,.int .u8 b,.int .u8 c,.int .u8 d,.int .i64 n,.int .i64 mx,.int .i64 nu,.int .i64 de,.int .u64 se]] w (aC7 w D k σ ⟨8,a,b,c,d,n,mx,nu,de,se⟩):=by
 obtain⟨KS,H1,BX,LT⟩:=mbox h hD #[.int .u8 8,.int .u8 a,.int .u8 b,.int .u8 c,.int .u8 d,.int .i64 n,.int .i64 mx,.int .i64 nu,.int .i64 de,.int .u64 se] 87;have II:=yH hi;have FF:=yH hs;have SF:Hid (aBg σ ⟨8,a,b,c,d,n,mx,nu,de,se⟩=(σ,⟨(lnAt σ.ls a b c).db,(lnAt σ.ls a b c).li⟩,0)):=yH rfl;clear h hD hi hs;go_enter Tryz.func122,Tryz.ntmps122
 go_upto_region 1 with fail
 generalize w.alloc (.cells #[.int .u8 8,.int .u8 a,.int .u8 b,.int .u8 c,.int .u8 d,.int .i64 n,.int .i64 mx,.int .i64 nu,.int .i64 de,.int .u64 se] 87)=W at *;have m0:=H1.o.blk.cell 0;have m1:=H1.o.blk.cell 1;have ml:=H1.o.blk.lt;have sl:=KS.o.lt;have s1:=KS.o.cell 1;have s2:=KS.o.cell 2;have s3:=KS.o.cell 3;simp at m0 m1 s1 s2 s3;have CC:Hid (∀w',Below W.heap.size W w'→Calls Tryz.prog 159 #[.pointer (some ⟨G,0,none⟩),.int .u8 a,.int .u8 b,.int .u8 c] w' fun e w''=>e=.returned (lineV (aAl σ.ls a b c))∧Below w'.heap.size w' w''):=yH (fun w' hb=>gline_any (H1.o.below hb).led II.o.li.inv FF.o.a FF.o.b FF.o.c);rw[lineV_eq]at CC
 change Hid (aBg σ _=(σ,⟨((aAl σ.ls a b c).getD noLn).db,((aAl σ.ls a b c).getD noLn).li⟩,0))at SF
 generalize (aAl σ.ls a b c).getD noLn=y at CC SF;generalize (aAl σ.ls a b c).isSome=yb at CC;refine aLj (by kernel_rfl) (fun s:GV=>[.pointer (some ⟨k,0,none⟩),.pointer (some ⟨k,0,none⟩),.pointer (some ⟨k,0,none⟩),.pointer (some ⟨k,0,none⟩),.pointer (some ⟨G,0,none⟩),.pointer (some ⟨w.heap.size,1,none⟩),.int .u8 a,.pointer (some ⟨w.heap.size,2,none⟩),.int .u8 b,.pointer (some ⟨w.heap.size,3,none⟩),.int .u8 c,.tuple #[.agg #[.int .u8 y.cr,.int .u8 y.de,.int .u8 y.cu,.int .i64 y.li,.int .i64 y.db],.bool yb],.tuple #[.agg #[.int .u8 y.cr,.int .u8 y.de,.int .u8 y.cu,.int .i64 y.li,.int .i64 y.db],.bool yb],.agg #[.int .u8 y.cr,.int .u8 y.de,.int .u8 y.cu,.int .i64 y.li,.int .i64 y.db],.bool yb,.pointer (some ⟨s.g,0,none⟩),undef,.bool yb]) (LayI 11 15 16 W 71 #[.int .u8 0,.int .u8 0,.int .u8 0,.int .i64 0,.int .i64 0] (fun _=>#[.int .u8 y.cr,.int .u8 y.de,.int .u8 y.cu,.int .i64 y.li,.int .i64 y.db]) (fun _ _=>True)) (by kernel_rfl) ⟨0,noV⟩ LayI.start ?_;intro AF hAF;simp only[yG,List.append_eq,List.cons_append,List.nil_append,puts,Act.put,yA,yC,yF,yD,yE]at hAF;have hAF2:_=AF:=funext hAF;subst hAF2;clear hAF;refine⟨?_,?_⟩
 ·simp only[yG,List.append_eq,List.cons_append,List.nil_append,EachF];refine⟨?_,?_,?_,?_,?_,?_,?_,?_,?_,?_,?_,?_,?_,?_,?_,?_,?_,?_,trivial⟩
  iterate 11 (· intro s D w' hD hW hC hI;refine .inl ⟨s,fun _ _ _=>rfl,?_⟩;with_reducible refine yO ?_ ?_;exact rfl;have HS:=yH (fun k hk=>LayI.keep hI k hk);have hb:=hI.old;have t0:=(hb.cell (p:=⟨k,0,none⟩) ml).trans m0;have t1:=(hb.cell (p:=⟨w.heap.size,1,none⟩) sl).trans s1;have t2:=(hb.cell (p:=⟨w.heap.size,2,none⟩) sl).trans s2;have t3:=(hb.cell (p:=⟨w.heap.size,3,none⟩) sl).trans s3;have l0:=yM ml hb.size;have l1:=yM sl hb.size;clear hI hC hW hD hb;go_wp2_with fail;all_goals first|exact HS.o _ (by decide)|exact⟨rfl,HS.o _ (by decide)⟩|rfl)
  ·intro s D w' hD hW hC hI;have hE:D 16=false:=aAa hC hD 16 (by kernel_rfl);refine .inr ?_;with_reducible refine aF4.plain ?_ ?_;exact rfl;have hb:=hI.old;have HC:=yH ((CC.o _ hb).mono (fun e w'' h=>(⟨noV,h.1,trivial,h.2⟩:∃x:V5,_∧True∧_)));have HI:=yH hI;have HCl:=yH hC;have HD:=yH hD;have HE:=yH hE;clear hI hC hW hD hb hE;go_wp2_with fail;refine HC.o.mono ?_;rintro e w'' ⟨x,rfl,hR,hb2⟩;refine leftBy_of (.tuple #[.agg #[.int .u8 y.cr,.int .u8 y.de,.int .u8 y.cu,.int .i64 y.li,.int .i64 y.db],.bool yb]) rfl ⟨⟨s.g,x⟩,?_,rfl,LayI.call HI.o (by decide) HE.o x hR hb2⟩
   ·intro j hj hD'
    match j,hj with
    | 0,_|1,_|2,_|3,_|4,_|5,_|6,_|7,_|8,_|9,_|10,_|11,_|12,_|13,_|14,_|15,_|16,_|17,_=>rfl
    | j+18,_=>rfl
  iterate 3 (· intro s D w' hD hW hC hI;refine .inl ⟨s,fun _ _ _=>rfl,?_⟩;with_reducible refine yO ?_ ?_;exact rfl;have HS:=yH (fun k hk=>LayI.keep hI k hk);clear hI hC hW hD;go_wp2_with fail;all_goals first|exact HS.o _ (by decide)|exact⟨rfl,HS.o _ (by decide)⟩|rfl)
  ·intro s D w' hD hW hC hI;have hE:D 16=false:=aAa hC hD 16 (by kernel_rfl);have HCl:=yH hC;have HD:=yH hD;refine .inl ⟨⟨w'.heap.size,s.v⟩,?_,?_⟩
   ·intro j hj hD'
    match j,hj with
    | 0,_|1,_|2,_|3,_|4,_|5,_|6,_|7,_|8,_|9,_|10,_|11,_|12,_|13,_|14,_|16,_|17,_=>rfl
    | 15,_=>exact absurd hD' (by rw[HD.o];exact Bool.false_ne_true)
    | j+18,_=>rfl
   with_reducible refine yO ?_ ?_;exact rfl;have HS:=yH (LayI.lay hI (by decide) hE (fun _ _ _ _ _=>trivial));clear hI hC hW hD hE;go_wp2_with fail;all_goals first|exact HS.o|exact⟨rfl,HS.o⟩|rfl
  ·intro s D w' hD hW hC hI;have hc:D 11=true:=aAk hC hW (by kernel_rfl);have hd:D 15=true:=aAk hC hW (by kernel_rfl);have hk:=hI.blk hd hD;have hRx:=hI.res hc;refine .inl ⟨s,fun _ _ _=>rfl,?_⟩;with_reducible refine yO ?_ ?_;exact rfl;refine wp_store_row 71 (.tmp 7) (.tmp 22) rfl s.g ((fun _=>#[.int .u8 y.cr,.int .u8 y.de,.int .u8 y.cu,.int .i64 y.li,.int .i64 y.db]) s.v) rfl rfl 71 _ hk.out (by kernel_rfl) rfl (by simp[Value.oneCell']) ⟨rfl,?_⟩;exact LayI.fill hI (by decide) hc hd hD (fun _ _ _ _ _=>trivial)
  iterate 1 (· intro s D w' hD hW hC hI;refine .inl ⟨s,fun _ _ _=>rfl,?_⟩;with_reducible refine yO ?_ ?_;exact rfl;have HS:=yH (fun k hk=>LayI.keep hI k hk);clear hI hC hW hD;go_wp2_with fail;all_goals first|exact HS.o _ (by decide)|exact⟨rfl,HS.o _ (by decide)⟩|rfl)
 intro s DD w1 hall hI;obtain⟨hb,hR,hB⟩:=hI
 replace hR:=hR (hall 11 (by decide))
 replace hB:=(hB (hall 15 (by decide))).2
 rw[if_pos (hall 16 (by decide))]at hB;dsimp only at hB;clear hall;have h3:=hB.cell 3;have h4:=hB.cell 4;have hl:=hB.lt;simp at h3 h4;go_wp2_with fail
 go_quiet (fail)
 go_wp2_with fail;refine bodyPost_ret (v:=.tuple #[.int .i64 y.db,.int .i64 y.li,.int .i64 0]) (by simp[results,Tryz.results122,go_sem]) rfl ?_;have hq:=below_drewN hb nq;exact aC7.of SF.o rfl ⟨H1.o.below hq,BX.o.trans (pAD hq)⟩
section
variable{W w w':World}{ps:List Int}{ls:List Ln}{l:List Of}{N tk pt:Int}{fs:List Fl}{G M gb:Nat}{vb v:Value}
theorem aK8{w:World}{base:Nat}{e:TypeId}{size n:Nat}{v:Value}{xs:List Value}(h:aCz w base e size v n xs){g:Nat}{cs:Array Value}{t:TypeId}(k:Blk w g cs t)(hne:e≠t):∀b,v.ownBlock=some b→¬b=g:=by
 obtain⟨_,h2⟩:=h;rcases h2 with⟨rfl,_⟩|⟨g',cur,rfl,_,hg,_⟩
 ·intro b hb;cases hb
 intro b hb
 cases hb
 exact aAy (show Blk w g' cur e from hg) k hne
end
def KS(v:Value):Prop:=∃i,v=.int .u8 i∧In8 i
theorem kindOk:aKs Tryz.prog 85 KS:=pAJ (Go.Maps.int_keyed Tryz.underlying85) fun v ⟨i,e,h⟩=>by subst e;exact⟨_,Go.Maps.keyOf_int_mk Tryz.underlying85 (u8_wf h)⟩
def KLt(n:Int)(kvs:List (Value×Value)):Prop:=∀p∈kvs,∃j,p.1=.int .u8 j∧0≤j∧j<n
theorem aBs{w:World}{m:Nat}{kvs:List (Value×Value)}(h:aA2 w m kvs){n n':Int}(v:Value)(hk:KLt n kvs)(h1:0≤n∧n≤200)(hn:n'=n+1):
  ∃w',(Instr.mapUpdate 164 (.map (some m)) (.int .u8 n) v).run Tryz.prog w=.ok () w'∧aA2 w' m (kvs++[(.int .u8 n,v)])∧aCf m w w'∧KLt n' (kvs++[(.int .u8 n,v)]):=by
 obtain⟨w',e,h2,t⟩:=h.store_new (v:=v) kindOk (fun p hp=>by obtain⟨j,e,a,b⟩:=hk p hp;exact⟨j,e,by omega,by omega⟩) Tryz.underlying164 (key:=.int .u8 n) ⟨n,rfl,by omega,by omega⟩ (fun p hp=>by obtain⟨j,e,a,b⟩:=hk p hp;rw[e];intro q;simp at q;omega);refine⟨w',e,h2,t,fun p hp=>?_⟩;rcases List.mem_append.1 hp with hp|hp
 ·obtain⟨j,e,a,b⟩:=hk p hp;exact⟨j,e,a,by omega⟩
 rw[List.mem_singleton]at hp;subst hp;exact⟨n,rfl,h1.1,by omega⟩
def aEp:List (Value×Value):=[(.int .u8 1,.func (.func 115) #[] #[]),(.int .u8 2,.func (.func 116) #[] #[]),(.int .u8 3,.func (.func 117) #[] #[]),(.int .u8 4,.func (.func 118) #[] #[]),(.int .u8 5,.func (.func 119) #[] #[]),(.int .u8 6,.func (.func 120) #[] #[]),(.int .u8 7,.func (.func 121) #[] #[]),(.int .u8 8,.func (.func 122) #[] #[]),(.int .u8 9,.func (.func 123) #[] #[]),(.int .u8 10,.func (.func 124) #[] #[]),(.int .u8 11,.func (.func 125) #[] #[])]
theorem aJ4(w:World):Calls Tryz.prog 80 #[] w fun e w'=>e=.returned (.map (some w.heap.size))∧aA2 w' w.heap.size aEp∧Below w.heap.size w w':=by
 have hmm:=@run_makeMap Tryz.prog;have h0:=aA2.made w;obtain⟨w1,e1,h1,t1,k1⟩:=aBs h0 (n:=1) (n':=2) (.func (.func 115) #[] #[]) (fun p hp=>by cases hp) ⟨by decide,by decide⟩ rfl;obtain⟨w2,e2,h2,t2,k2⟩:=aBs h1 (n:=2) (n':=3) (.func (.func 116) #[] #[]) k1 ⟨by decide,by decide⟩ rfl;obtain⟨w3,e3,h3,t3,k3⟩:=aBs h2 (n:=3) (n':=4) (.func (.func 117) #[] #[]) k2 ⟨by decide,by decide⟩ rfl;obtain⟨w4,e4,h4,t4,k4⟩:=aBs h3 (n:=4) (n':=5) (.func (.func 118) #[] #[]) k3 ⟨by decide,by decide⟩ rfl;obtain⟨w5,e5,h5,t5,k5⟩:=aBs h4 (n:=5) (n':=6) (.func (.func 119) #[] #[]) k4 ⟨by decide,by decide⟩ rfl;obtain⟨w6,e6,h6,t6,k6⟩:=aBs h5 (n:=6) (n':=7) (.func (.func 120) #[] #[]) k5 ⟨by decide,by decide⟩ rfl;obtain⟨w7,e7,h7,t7,k7⟩:=aBs h6 (n:=7) (n':=8) (.func (.func 121) #[] #[]) k6 ⟨by decide,by decide⟩ rfl;obtain⟨w8,e8,h8,t8,k8⟩:=aBs h7 (n:=8) (n':=9) (.func (.func 122) #[] #[]) k7 ⟨by decide,by decide⟩ rfl;obtain⟨w9,e9,h9,t9,k9⟩:=aBs h8 (n:=9) (n':=10) (.func (.func 123) #[] #[]) k8 ⟨by decide,by decide⟩ rfl;obtain⟨w10,e10,h10,t10,k10⟩:=aBs h9 (n:=10) (n':=11) (.func (.func 124) #[] #[]) k9 ⟨by decide,by decide⟩ rfl;obtain⟨w11,e11,h11,t11,k11⟩:=aBs h10 (n:=11) (n':=12) (.func (.func 125) #[] #[]) k10 ⟨by decide,by decide⟩ rfl;have BB:Below w.heap.size w w11:=(yZ.alloc yL (.map #[] 0)).trans (((((((((((t1.keep.trans t2.keep).trans t3.keep).trans t4.keep).trans t5.keep).trans t6.keep).trans t7.keep).trans t8.keep).trans t9.keep).trans t10.keep).trans t11.keep).below (by simp) (fun j hj e=>by omega));have HH:=yH h11;have BB:=yH BB;clear h0 h1 h2 h3 h4 h5 h6 h7 h8 h9 h10 k1 k2 k3 k4 k5 k6 k7 k8 k9 k10 t11 k11;go_enter Tryz.func80,Tryz.ntmps80;go_wp2;go_ret;exact⟨rfl,HH.o,BB.o⟩
def KdBy(σ:Hs)(s:Stp)(f:Nat):Prop:=(.int .u8 s.kd,.func (.func f) #[] #[])∈aEp∧(∀args w',(callFunc f args).run Tryz.prog w'=.ok (.enter f args) w')∧
 ∀{w:World} {D:Nat→Prop} {k G M gb:Nat} {vb:Value},MM w D k G M gb vb σ→aFj D w→Calls Tryz.prog f #[.pointer (some ⟨k,0,none⟩),.agg #[.int .u8 s.kd,.int .u8 s.a,.int .u8 s.b,.int .u8 s.c,.int .u8 s.d,.int .i64 s.n,.int .i64 s.mx,.int .i64 s.nu,.int .i64 s.de,.int .u64 s.se]] w (aC7 w D k σ s)
def KdAns(s:Stp):Prop:=∀σ:Hs,HInv σ→s.Fits→(∃f,KdBy σ s f)∨((∀p∈aEp,p.1≠.int .u8 s.kd)∧aBg σ s=(σ,⟨0,0⟩,1))
theorem kd_few(HR:aD0)(s:Stp)(h:s.kd=1∨s.kd=2∨s.kd=3∨s.kd=8∨s.kd=9):KdAns s:=fun σ hi hs=>by
 obtain⟨kd,a,b,c,d,n,mx,nu,de,se⟩:=s;rcases h with rfl|rfl|rfl|rfl|rfl
 ·exact .inl ⟨115,by unfold aEp;simp,enters_of Tryz.func115 (by kernel_rfl) rfl,fun h hD=>mopen_any h hD hi hs⟩
 ·exact .inl ⟨116,by unfold aEp;simp,enters_of Tryz.func116 (by kernel_rfl) rfl,fun h hD=>mtrust_any h hD hi hs⟩
 ·exact .inl ⟨117,by unfold aEp;simp,enters_of Tryz.func117 (by kernel_rfl) rfl,fun h hD=>mpay_any HR h hD hi hs⟩
 ·exact .inl ⟨122,by unfold aEp;simp,enters_of Tryz.func122 (by kernel_rfl) rfl,fun h hD=>mdebt_any h hD hi hs⟩
 exact .inl ⟨123,by unfold aEp;simp,enters_of Tryz.func123 (by kernel_rfl) rfl,fun h hD=>aK7 h hD hi hs⟩
theorem kindLt:KLt 12 aEp:=fun p hp=>by
 unfold aEp at hp;simp only[yI,yJ,or_false]at hp;rcases hp with rfl|rfl|rfl|rfl|rfl|rfl|rfl|rfl|rfl|rfl|rfl <;> exact⟨_,rfl,by decide,by decide⟩
theorem mdo_any(h:MM w D k G M gb vb σ)(hD:aFj D w)(hi:HInv σ)(s:Stp)(hs:s.Fits)(HK:KdAns s):
  Calls Tryz.prog 50 #[.pointer (some ⟨k,0,none⟩),.agg #[.int .u8 s.kd,.int .u8 s.a,.int .u8 s.b,.int .u8 s.c,.int .u8 s.d,.int .i64 s.n,.int .i64 s.mx,.int .i64 s.nu,.int .i64 s.de,.int .u64 s.se]] w (aC7 w D k σ s):=by
 obtain⟨KS1,H1,BX,LT⟩:=mbox h hD #[.int .u8 s.kd,.int .u8 s.a,.int .u8 s.b,.int .u8 s.c,.int .u8 s.d,.int .i64 s.n,.int .i64 s.mx,.int .i64 s.nu,.int .i64 s.de,.int .u64 s.se] 87;have KK:=yH (HK σ hi hs);have hkd:=hs.kd;clear h hD hi hs HK;go_enter Tryz.func50,Tryz.ntmps50
 go_upto_region 1 with fail
 generalize w.alloc (.cells #[.int .u8 s.kd,.int .u8 s.a,.int .u8 s.b,.int .u8 s.c,.int .u8 s.d,.int .i64 s.n,.int .i64 s.mx,.int .i64 s.nu,.int .i64 s.de,.int .u64 s.se] 87)=W at *;have sl:=KS1.o.lt;have s0:=KS1.o.cell 0;simp at s0;have KD:=yH (show KS (.int .u8 s.kd)from⟨_,rfl,hkd⟩);rcases KK.o with⟨f,hf1,hf2,hf3⟩|⟨hn,he⟩
 ·have HF1:=yH hf1;have HF3:Hid (∀(w:World) (D:Nat→Prop) (k G M gb:Nat) (vb:Value),MM w D k G M gb vb σ→aFj D w→Calls Tryz.prog f #[.pointer (some ⟨k,0,none⟩),.agg #[.int .u8 s.kd,.int .u8 s.a,.int .u8 s.b,.int .u8 s.c,.int .u8 s.d,.int .i64 s.n,.int .i64 s.mx,.int .i64 s.nu,.int .i64 s.de,.int .u64 s.se]] w (aC7 w D k σ s)):=yH (fun w D k G M gb vb h hD=>hf3 h hD);clear hf1 hf3 KK;refine aA4 (by kernel_rfl) [(.map (some W.heap.size)),(.pointer (some ⟨w.heap.size,0,none⟩)),(.int .u8 s.kd),(.tuple #[(.func (.func f) #[] #[]),.bool true]),(.tuple #[(.func (.func f) #[] #[]),.bool true]),(.func (.func f) #[] #[]),(.bool true),(.func (.func f) #[] #[]),(.bool true)] (Once 0 (fun w'=>Below W.heap.size W w'∧w'.heap.size=W.heap.size) (fun w''=>Below W.heap.size W w''∧aA2 w'' W.heap.size aEp)) (by kernel_rfl) (Once.start ⟨yZ.drew,rfl⟩) ?_;intro af haf;simp only[yG,List.append_eq,List.cons_append,List.nil_append,puts,Act.put,yA,yC,yF,yD,yE]at haf;subst haf;refine⟨?_,?_⟩
  ·simp only[yG,List.append_eq,List.cons_append,List.nil_append,aCd];refine⟨?_,?_,?_,?_,?_,?_,?_,?_,?_,trivial⟩
   ·intro D w' hD hW hC hI;have HS:=yH (hI.pre hD);refine yO ?_ ?_;exact rfl;clear hI hC hW hD;go_wp2_with fail;refine(aJ4 w').mono ?_;rintro e w'' ⟨rfl,hm,b2⟩;rw[HS.o.2]at hm ⊢;exact⟨rfl,Once.done ⟨andB HS.o.1 b2,hm⟩⟩
   ·intro D w' hD hW hC hI;have HS:=yH (fun k (hk:k≠0)=>Once.keep (k:=k) hk hI);refine yO ?_ ?_;exact rfl;clear hI hC hW hD;go_wp2_with fail;all_goals first|exact HS.o _ (by decide)|exact⟨rfl,HS.o _ (by decide)⟩|rfl
   ·intro D w' hD hW hC hI;have hb:Below W.heap.size W w':=(by cases h:D 0 with|false=>exact(hI.pre h).1|true=>exact(hI.post h).1);have HS:=yH (fun k (hk:k≠0)=>Once.keep (k:=k) hk hI);refine yO ?_ ?_;exact rfl;have t0:=(hb.cell (p:=⟨w.heap.size,0,none⟩) sl).trans s0;have l0:=yM sl hb.size;clear hI hC hW hD hb;go_wp2_with fail;all_goals first|exact HS.o _ (by decide)|exact⟨rfl,HS.o _ (by decide)⟩|rfl
   ·intro D w' hD hW hC hI;have hP:D 0=true:=aAk hC hW (by kernel_rfl);have hm:=(hI.post hP).2;have HS:=yH (fun k (hk:k≠0)=>Once.keep (k:=k) hk hI);refine yO ?_ ?_;exact rfl;have LK:=hm.look_some kindOk (fun p hp=>by obtain⟨j,e,a,b⟩:=kindLt p hp;exact⟨j,e,by omega,by omega⟩) Tryz.underlying164 KD.o HF1.o true;clear hI hC hW hD hP hm;go_wp2_with fail;all_goals first|exact HS.o _ (by decide)|exact⟨rfl,HS.o _ (by decide)⟩|rfl
   iterate 5 (· intro D w' hD hW hC hI;have HS:=yH (fun k (hk:k≠0)=>Once.keep (k:=k) hk hI);refine yO ?_ ?_;exact rfl;clear hI hC hW hD;go_wp2_with fail;all_goals first|exact HS.o _ (by decide)|exact⟨rfl,HS.o _ (by decide)⟩|rfl)
  intro DD w1 hall hI;have hb:=(hI.post (hall 0 (by decide))).1;clear hI hall;have k1:=KS1.o.below hb sl;have c0:=k1.cell 0;have c1:=k1.cell 1;have c2:=k1.cell 2;have c3:=k1.cell 3;have c4:=k1.cell 4;have c5:=k1.cell 5;have c6:=k1.cell 6;have c7:=k1.cell 7;have c8:=k1.cell 8;have c9:=k1.cell 9;have cl:=k1.lt;simp at c0 c1 c2 c3 c4 c5 c6 c7 c8 c9;have CC:=yH (HF3.o w1 D k G M gb vb (H1.o.below hb) (LT.o.of_le hb.size));have BX2:Hid (Keep D w w1):=yH (BX.o.trans (pAD hb));clear k1 s0 hb;go_wp2_with fail;refine CC.o.mono ?_;rintro e w2 ⟨rfl,h1,h2⟩;go_wp2_with fail;refine bodyPost_ret (v:=.tuple #[.int .i64 (aBg σ s).2.1.gx,.int .i64 (aBg σ s).2.1.gy,.int .i64 (aBg σ s).2.2]) (by simp[results,Tryz.results50,go_sem]) rfl ?_;exact⟨rfl,h1,BX2.o.trans h2⟩
 have HN:=yH hn;have HE:=yH he;obtain⟨z,hz⟩:∃z,∀w,(zeroValue 162).run Tryz.prog w=.ok z w:=⟨.nilFunc,fun w=>by kernel_rfl⟩;have HZ:=yH hz;clear hn he KK hz;refine aA4 (by kernel_rfl) [(.map (some W.heap.size)),(.pointer (some ⟨w.heap.size,0,none⟩)),(.int .u8 s.kd),(.tuple #[z,.bool false]),(.tuple #[z,.bool false]),z,(.bool false),z,(.bool false)] (Once 0 (fun w'=>Below W.heap.size W w'∧w'.heap.size=W.heap.size) (fun w''=>Below W.heap.size W w''∧aA2 w'' W.heap.size aEp)) (by kernel_rfl) (Once.start ⟨yZ.drew,rfl⟩) ?_;intro af haf;simp only[yG,List.append_eq,List.cons_append,List.nil_append,puts,Act.put,yA,yC,yF,yD,yE]at haf;subst haf;refine⟨?_,?_⟩
 ·simp only[yG,List.append_eq,List.cons_append,List.nil_append,aCd];refine⟨?_,?_,?_,?_,?_,?_,?_,?_,?_,trivial⟩
  ·intro D w' hD hW hC hI;have HS:=yH (hI.pre hD);refine yO ?_ ?_;exact rfl;clear hI hC hW hD;go_wp2_with fail;refine(aJ4 w').mono ?_;rintro e w'' ⟨rfl,hm,b2⟩;rw[HS.o.2]at hm ⊢;exact⟨rfl,Once.done ⟨andB HS.o.1 b2,hm⟩⟩
  ·intro D w' hD hW hC hI;have HS:=yH (fun k (hk:k≠0)=>Once.keep (k:=k) hk hI);refine yO ?_ ?_;exact rfl;clear hI hC hW hD;go_wp2_with fail;all_goals first|exact HS.o _ (by decide)|exact⟨rfl,HS.o _ (by decide)⟩|rfl
  ·intro D w' hD hW hC hI;have hb:Below W.heap.size W w':=(by cases h:D 0 with|false=>exact(hI.pre h).1|true=>exact(hI.post h).1);have HS:=yH (fun k (hk:k≠0)=>Once.keep (k:=k) hk hI);refine yO ?_ ?_;exact rfl;have t0:=(hb.cell (p:=⟨w.heap.size,0,none⟩) sl).trans s0;have l0:=yM sl hb.size;clear hI hC hW hD hb;go_wp2_with fail;all_goals first|exact HS.o _ (by decide)|exact⟨rfl,HS.o _ (by decide)⟩|rfl
  ·intro D w' hD hW hC hI;have hP:D 0=true:=aAk hC hW (by kernel_rfl);have hm:=(hI.post hP).2;have HS:=yH (fun k (hk:k≠0)=>Once.keep (k:=k) hk hI);refine yO ?_ ?_;exact rfl;have LK:=hm.look_none kindOk (fun p hp=>by obtain⟨j,e,a,b⟩:=kindLt p hp;exact⟨j,e,by omega,by omega⟩) Tryz.underlying164 (HZ.o _) KD.o HN.o true;clear hI hC hW hD hP hm;go_wp2_with fail;all_goals first|exact HS.o _ (by decide)|exact⟨rfl,HS.o _ (by decide)⟩|rfl
  iterate 5 (· intro D w' hD hW hC hI;have HS:=yH (fun k (hk:k≠0)=>Once.keep (k:=k) hk hI);refine yO ?_ ?_;exact rfl;clear hI hC hW hD;go_wp2_with fail;all_goals first|exact HS.o _ (by decide)|exact⟨rfl,HS.o _ (by decide)⟩|rfl)
 intro DD w1 hall hI;have hb:=(hI.post (hall 0 (by decide))).1;clear hI hall;go_wp2_with fail;refine bodyPost_ret (v:=.tuple #[.int .i64 0,.int .i64 0,.int .i64 1]) (by simp[results,Tryz.results50,go_sem]) rfl ?_;exact aC7.of HE.o rfl ⟨H1.o.below hb,BX.o.trans (pAD hb)⟩
end
end Go.Proofs.YtngnfdnfpiiclaaGreat
namespace Go.Proofs.YtngnfdnfpiiclaaGreat
open Go.RowKit Go.IntWalk
theorem aK9(a:Option Addr)(n c:Nat)(w:World):Calls Tryz.prog 37 #[.slice a n c] w (yR w (.agg #[.slice a n c])):=by
 have b0:=(Below.refl w.heap.size w).alloc yL (.cells #[.slice none 0 0] 32);have KX:=yH (Blk.new w #[.slice none 0 0] 32);have B0:=yH b0;clear b0;go_enter Tryz.func37,Tryz.ntmps37
 go_upto_region 1 with fail
 generalize w.alloc (.cells #[.slice none 0 0] 32)=W at *;have xl:=KX.o.lt;have x0:=KX.o.cell 0;simp at x0;go_wp2_with (refine aAb rfl 32 (.tmp 2) (.tmp 4) rfl w.heap.size #[.slice a n c] rfl rfl 32 _ KX.o.out (by kernel_rfl) rfl (by simp[Value.oneCell']) ?_);refine bodyPost_ret (v:=.agg #[.slice a n c]) (results_cell_row rfl _ _ w.heap.size 32 #[.slice a n c] (0,0) _ rfl (setRow_heap _ w.heap.size _ _ _ (0,0) KX.o.out) Tryz.underlying32 rfl (by kernel_rfl)) rfl ?_;exact⟨rfl,below_setRow B0.o yL _⟩
structure aEj(w:World)(σ:Hs)(vp vl vo:Value):Prop where
 p:aAs w vp 1 σ.ps.length (σ.ps.map (.int .u8))
 l:aAs w vl 5 σ.ls.length (aAd σ.ls)
 o:aAs w vo 7 σ.l.length (aAe σ.l)
theorem aCv{w:World}{e1 a1 e2 a2:Int}{va vb:Value}{la lb:List Gt}(ha:aAs w va 2 la.length (aAt la))(hb:aAs w vb 2 lb.length (aAt lb)):
  Calls Tryz.prog 17 #[.agg #[.int .i64 e1,.int .i64 a1,va],.agg #[.int .i64 e2,.int .i64 a2,vb]] w fun e w'=>e=.returned (.bool (decide (e1=e2∧a1=a2∧la=lb)))∧Below w.heap.size w w':=by
 have b1:=(Below.refl w.heap.size w).alloc yL (.cells #[.int .i64 e1,.int .i64 a1,va] 36);have b2:=b1.alloc b1.size (.cells #[.int .i64 e2,.int .i64 a2,vb] 36);have KA:=yH ((Blk.new w #[.int .i64 e1,.int .i64 a1,va] 36).alloc (.cells #[.int .i64 e2,.int .i64 a2,vb] 36));have KB:=yH (pAB (w.alloc (.cells #[.int .i64 e1,.int .i64 a1,va] 36)) #[.int .i64 e2,.int .i64 a2,vb] 36 (g:=w.heap.size+1) (by simp));have B2:=yH b2;have C:=yH (sameGt_any (ha.below b2) (hb.below b2));clear ha hb b1 b2;go_enter Tryz.func17,Tryz.ntmps17
 go_upto_region 1 with fail
 generalize (w.alloc (.cells #[.int .i64 e1,.int .i64 a1,va] 36)).alloc (.cells #[.int .i64 e2,.int .i64 a2,vb] 36)=W at *;have x0:=KA.o.cell 0;have x1:=KA.o.cell 1;have x2:=KA.o.cell 2;have xl:=KA.o.lt;have y0:=KB.o.cell 0;have y1:=KB.o.cell 1;have y2:=KB.o.cell 2;have yl:=KB.o.lt;simp at x0 x1 x2 y0 y1 y2
 by_cases he:e1=e2
 ·have q1:(e1==e2)=true:=by simpa using he
  by_cases h2:a1=a2
  ·have q2:(a1==a2)=true:=by simpa using h2
   have HE:=yH (And.intro he h2);clear he h2;go_wp2_with fail;refine C.o.mono ?_;rintro e w3 ⟨rfl,b3⟩;go_wp2_with fail;go_ret;exact⟨by simp[HE.o.1,HE.o.2],B2.o.trans (b3.mono B2.o.size)⟩
  have q2:(a1==a2)=false:=by simpa using h2
  have HE:=yH h2;clear he h2;go_wp2_with fail;go_ret;exact⟨by simp[HE.o],B2.o⟩
 have q1:(e1==e2)=false:=by simpa using he
 have HE:=yH he;clear he;go_wp2_with fail;go_ret;exact⟨by simp[HE.o],B2.o⟩
theorem aH0(x:Stp)(h:0≤x.kd∧x.kd≤255∧0≤x.a∧x.a≤255∧0≤x.b∧x.b≤255∧0≤x.c∧x.c≤255∧0≤x.d∧x.d≤255∧0≤x.n∧x.n≤255∧x.mx=0∧x.nu=0∧x.de=0∧x.se=0):x.Fits:=by
 obtain⟨a1,a2,b1,b2,c1,c2,d1,d2,e1,e2,f1,f2,g,i,j,k⟩:=h;exact⟨⟨a1,a2⟩,⟨b1,b2⟩,⟨c1,c2⟩,⟨d1,d2⟩,⟨e1,e2⟩,⟨by omega,by omega⟩,⟨by omega,by omega⟩,⟨by omega,by omega⟩,⟨by omega,by omega⟩,⟨by omega,by omega⟩⟩
theorem aMn(w:World)(size:Nat):aAs w (.slice none 0 0) size 0 []:=⟨none,0,rfl,by omega,by simp,fun h=>absurd h (by omega)⟩
theorem aEk{w:World}{g:Nat}{xs:List Stp}{t:TypeId}{cs:Array Value}(h:Blk w g cs t)(hc:cs=(aGk xs).toArray)(hf:∀x∈xs,x.Fits)(hl:xs.length≤1000):SlIn Stp.vals 10 Stp.Fits w (some ⟨g,0,none⟩) xs.length xs.length xs:=by
 refine⟨(fun e=>by cases e),rfl,hf,Nat.le_refl _,by unfold maxLen;omega,fun _=>⟨_,_,rfl,h.lt,fun i hi j u hu=>?_⟩⟩
 have hj:j<10:=by
  have:=(List.getElem?_eq_some_iff.1 hu).1
  rwa [Stp.vals_len]at this
 rw[Nat.zero_add,h.cell,hc,List.getElem?_toArray,aHj xs i j hj hi,hu]
theorem aEl{w:World}{g:Nat}{xs:List Gt}{t:TypeId}{cs:Array Value}(h:Blk w g cs t)(hc:cs=(aAt xs).toArray)(hl:xs.length≤1000):aAs w (.slice (some ⟨g,0,none⟩) xs.length xs.length) 2 xs.length (aAt xs):=by
 refine⟨_,_,rfl,by omega,aB5 xs,fun _=>⟨g,0,rfl,h.lt,fun j hj=>?_⟩⟩;rw[Nat.zero_add,h.cell,hc,List.getElem?_toArray]
end Go.Proofs.YtngnfdnfpiiclaaGreat
namespace Go.Proofs.YtngnfdnfpiiclaaGreat
open Go.RowKit
theorem aAs.row{w w':World}{ao:Option Addr}{n cap size:Nat}{xs:List Value}(h:aAs w (.slice ao n cap) size n xs)(q:Below w.heap.size w w'){k:Nat}(hk:k<n)(hs:0<size):∃b off,ao=some ⟨b,off,none⟩∧b<w'.heap.size∧∀j,j<size→w'.cell? ⟨b,off+k*size+j,none⟩=xs[k*size+j]? := by
 obtain⟨ao',cap',e,_,_,h4⟩:=h
 cases e
 obtain⟨b,off,rfl,hb,hc⟩:=h4 (by omega);refine⟨b,off,rfl,yM hb q.size,fun j hj=>?_⟩
 have hlt:k*size+j<n*size:=by
  have:(k+1)*size≤n*size:=Nat.mul_le_mul_right _ hk;rw[Nat.add_mul]at this;omega
 rw[show off+k*size+j=off+(k*size+j) by omega];exact(q.cell (p:=⟨b,off+(k*size+j),none⟩) hb).trans (hc _ hlt)
theorem aAs.shape{w:World}{v:Value}{n size:Nat}{xs:List Value}(h:aAs w v size n xs):∃ao cap,v=.slice ao n cap:=by
 obtain⟨ao,cap,e,_⟩:=h;exact⟨ao,cap,e⟩
theorem HInv.parties{σ:Hs}(hi:HInv σ):σ.ps.length≤16:=by
 have h1:=aK2 hi.li.bd hi.li.rise;rw[←h1];unfold aA7;exact Nat.le_trans (List.length_filter_le _ _) (by simp)
def aFk(ps:List Int)(x:Ln):Prop:=mayE x.cr x.de x.cu=true∧x.cr∈ps∧x.de∈ps∧1≤x.li∧x.li≤1099511627776∧0≤x.db∧x.db≤x.li
instance(ps:List Int)(x:Ln):Decidable (aFk ps x):=by unfold aFk;infer_instance
theorem aFk.good{ps:List Int}{x:Ln}(h:aFk ps x):x.Good:=by
 obtain⟨h1,_,_,h2,h3,h4,h5⟩:=h;unfold mayE at h1;simp at h1;exact⟨by omega,by omega,by omega,by omega,by omega,by omega⟩
def okP(zs:List Int):Prop:=zs.Pairwise (·<·)∧∀p∈zs,1≤p∧p≤16
def okL(ps:List Int)(ls:List Ln):Prop:=ls.Pairwise (fun x y=>x.rank<y.rank)∧∀x∈ls,aFk ps x
theorem okP.nil:okP []:=⟨List.Pairwise.nil,by simp⟩
theorem okL.nil(ps:List Int):okL ps []:=⟨List.Pairwise.nil,by simp⟩
theorem okP.linv{ps:List Int}{ls:List Ln}(h:okP ps)(hl:okL ps ls)(h64:ls.length≤64):LInv ps ls:=
 ⟨⟨fun x hx=>(hl.2 x hx).good,hl.1⟩,h64,fun x hx=>⟨(hl.2 x hx).2.1,(hl.2 x hx).2.2.1⟩,h.2,h.1⟩
theorem aGm{α:Type}{R:α→α→Prop}(ht:∀a b c,R a b→R b c→R a c){zs:List α}{k:Nat}(hk:k<zs.length)(h:(zs.take k).Pairwise R)(hs:∀hk0:0<k,R (zs[k - 1]'(by omega)) zs[k]):(zs.take (k+1)).Pairwise R:=by
 rw[List.take_succ_eq_append_getElem hk,List.pairwise_append];refine⟨h,by simp,fun a ha b hb=>?_⟩;rw[List.mem_singleton]at hb;subst hb;obtain⟨j,hj,rfl⟩:=List.mem_take_iff_getElem.1 ha;have hk0:0<k:=by omega
 by_cases hjk:j=k - 1
 ·subst hjk;exact hs hk0
 refine ht _ _ _ ?_ (hs hk0);have:=List.pairwise_iff_getElem.1 h j (k - 1) (by simp;omega) (by simp;omega) (by omega);simpa using this
theorem aMo{α:Type}{R:α→α→Prop}{zs:List α}{k:Nat}(hk:k<zs.length)(h:zs.Pairwise R)(hk0:0<k):R (zs[k - 1]'(by omega)) zs[k]:=
 List.pairwise_iff_getElem.1 h (k - 1) k (by omega) hk (by omega)
theorem okP.next{zs:List Int}{k:Nat}(hk:k<zs.length)(h:okP (zs.take k))(hm:mayP zs[k]=true)(hs:∀hk0:0<k,zs[k - 1]'(by omega)<zs[k]):okP (zs.take (k+1)):=by
 refine⟨aGm (R:=fun x y:Int=>x<y) (fun a b c h1 h2=>Int.lt_trans h1 h2) hk h.1 hs,fun p hp=>?_⟩;rw[List.take_succ_eq_append_getElem hk,List.mem_append,List.mem_singleton]at hp;rcases hp with hp|rfl
 ·exact h.2 p hp
 unfold mayP at hm;simpa using hm
theorem okP.bad{zs:List Int}{k:Nat}(hk:k<zs.length)(h:mayP zs[k]=false∨∃hk0:0<k,zs[k]≤zs[k - 1]'(by omega)):¬okP zs:=by
 rintro⟨h1,h2⟩;rcases h with h|⟨hk0,h⟩
 ·have:=h2 zs[k] (List.getElem_mem _);unfold mayP at h;simp at h;omega
 have:=aMo hk h1 hk0;omega
theorem okL.next{ps:List Int}{ls:List Ln}{k:Nat}(hk:k<ls.length)(h:okL ps (ls.take k))(hm:aFk ps ls[k])(hs:∀hk0:0<k,(ls[k - 1]'(by omega)).rank<ls[k].rank):okL ps (ls.take (k+1)):=by
 refine⟨aGm (R:=fun x y:Ln=>x.rank<y.rank) (fun a b c h1 h2=>Int.lt_trans h1 h2) hk h.1 hs,fun p hp=>?_⟩;rw[List.take_succ_eq_append_getElem hk,List.mem_append,List.mem_singleton]at hp;rcases hp with hp|rfl
 ·exact h.2 p hp
 exact hm
theorem okL.bad{ps:List Int}{ls:List Ln}{k:Nat}(hk:k<ls.length)(h:¬aFk ps ls[k]∨∃hk0:0<k,ls[k].rank≤(ls[k - 1]'(by omega)).rank):¬okL ps ls:=by
 rintro⟨h1,h2⟩;rcases h with h|⟨hk0,h⟩
 ·exact h (h2 _ (List.getElem_mem _))
 have:=aMo hk h1 hk0;omega
theorem aEm{w:World}{g m:Nat}{ps:List Int}(h:Blk w g (ledC ps (.map (some m))) 155)(hb:∀p∈ps,1≤p∧p≤16)(x:Ln):
  Calls Tryz.prog 106 #[.pointer (some ⟨g,0,none⟩),.agg #[.int .u8 x.cr,.int .u8 x.de,.int .u8 x.cu,.int .i64 x.li,.int .i64 x.db]] w (yR w (.bool (decide (aFk ps x)))):=by
 have B0:=yH ((Below.refl w.heap.size w).alloc yL (.cells #[.int .u8 x.cr,.int .u8 x.de,.int .u8 x.cu,.int .i64 x.li,.int .i64 x.db] 71));have C0:=yH (aNo x.cr x.de x.cu (w.alloc (.cells #[.int .u8 x.cr,.int .u8 x.de,.int .u8 x.cu,.int .i64 x.li,.int .i64 x.db] 71)));have KX:=yH (Blk.new w #[.int .u8 x.cr,.int .u8 x.de,.int .u8 x.cu,.int .i64 x.li,.int .i64 x.db] 71);have C1:=yH (fun(w':World) (k:Below w.heap.size w w')=>aEd (h.below k h.lt) hb x.cr);have C2:=yH (fun(w':World) (k:Below w.heap.size w w')=>aEd (h.below k h.lt) hb x.de);have HE:Hid (∃r,decide (aFk ps x)=r):=yH ⟨_,rfl⟩
 by_cases hm:mayE x.cr x.de x.cu=false
 ·rw[decide_eq_false (fun k:aFk ps x=>by rw[k.1]at hm;cases hm)];rw[hm]at C0;clear hm h hb HE;go_enter Tryz.func106,Tryz.ntmps106;go_wp2_with fail;refine C0.o.mono ?_;rintro e w1 ⟨rfl,b1⟩;have B1:=yT B0 b1;have K1:=yB KX b1;clear b1 B0 KX;have hl:=K1.o.lt;have d0:=K1.o.cell 0;have d1:=K1.o.cell 1;have d2:=K1.o.cell 2;have d3:=K1.o.cell 3;have d4:=K1.o.cell 4;simp at d0 d1 d2 d3 d4;go_wp2_with fail;go_ret;exact⟨rfl,B1.o⟩
 have hm:mayE x.cr x.de x.cu=true:=by simpa using hm
 rw[hm]at C0
 by_cases pa:¬x.cr∈ps
 ·rw[decide_eq_false (fun k:aFk ps x=>pa k.2.1)];rw[decide_eq_false pa]at C1;clear hm h hb HE pa;go_enter Tryz.func106,Tryz.ntmps106;go_wp2_with fail;refine C0.o.mono ?_;rintro e w1 ⟨rfl,b1⟩;have B1:=yT B0 b1;have K1:=yB KX b1;clear b1 B0 KX;have hl:=K1.o.lt;have d0:=K1.o.cell 0;have d1:=K1.o.cell 1;have d2:=K1.o.cell 2;have d3:=K1.o.cell 3;have d4:=K1.o.cell 4;simp at d0 d1 d2 d3 d4;go_wp2_with fail;refine(C1.o _ B1.o).mono ?_;rintro e w1 ⟨rfl,rfl⟩;go_wp2_with fail;go_ret;exact⟨rfl,B1.o⟩
 have pa:=Decidable.not_not.1 pa;rw[decide_eq_true pa]at C1
 by_cases pb:¬x.de∈ps
 ·rw[decide_eq_false (fun k:aFk ps x=>pb k.2.2.1)];rw[decide_eq_false pb]at C2;clear hm h hb HE pa pb;go_enter Tryz.func106,Tryz.ntmps106;go_wp2_with fail;refine C0.o.mono ?_;rintro e w1 ⟨rfl,b1⟩;have B1:=yT B0 b1;have K1:=yB KX b1;clear b1 B0 KX;have hl:=K1.o.lt;have d0:=K1.o.cell 0;have d1:=K1.o.cell 1;have d2:=K1.o.cell 2;have d3:=K1.o.cell 3;have d4:=K1.o.cell 4;simp at d0 d1 d2 d3 d4;go_wp2_with fail;refine(C1.o _ B1.o).mono ?_;rintro e w1 ⟨rfl,rfl⟩;go_wp2_with fail;refine(C2.o _ B1.o).mono ?_;rintro e w1 ⟨rfl,rfl⟩;go_wp2_with fail;go_ret;exact⟨rfl,B1.o⟩
 have pb:=Decidable.not_not.1 pb;rw[decide_eq_true pb]at C2
 have hL:decide (aFk ps x)=decide (1≤x.li∧x.li≤1099511627776∧0≤x.db∧x.db≤x.li):=by
  refine decide_eq_decide.2 ⟨fun k=>k.2.2.2,fun k=>⟨hm,pa,pb,k⟩⟩
 rw[hL];clear hm h hb HE pa pb hL
 by_cases q1:¬1≤x.li
 ·have s1:decide (1≤x.li)=false:=by simp;omega
  rw[decide_eq_false (fun k=>q1 k.1)];go_enter Tryz.func106,Tryz.ntmps106;go_wp2_with fail;refine C0.o.mono ?_;rintro e w1 ⟨rfl,b1⟩;have B1:=yT B0 b1;have K1:=yB KX b1;clear b1 B0 KX;have hl:=K1.o.lt;have d0:=K1.o.cell 0;have d1:=K1.o.cell 1;have d2:=K1.o.cell 2;have d3:=K1.o.cell 3;have d4:=K1.o.cell 4;simp at d0 d1 d2 d3 d4;go_wp2_with fail;refine(C1.o _ B1.o).mono ?_;rintro e w1 ⟨rfl,rfl⟩;go_wp2_with fail;refine(C2.o _ B1.o).mono ?_;rintro e w1 ⟨rfl,rfl⟩;go_wp2_with fail;go_ret;exact⟨rfl,B1.o⟩
 have q1:=Decidable.not_not.1 q1
 by_cases q2:¬x.li≤1099511627776
 ·have s1:decide (1≤x.li)=true:=by simp;omega
  have s2:decide (x.li≤1099511627776)=false:=by simp;omega
  rw[decide_eq_false (fun k=>q2 k.2.1)];go_enter Tryz.func106,Tryz.ntmps106;go_wp2_with fail;refine C0.o.mono ?_;rintro e w1 ⟨rfl,b1⟩;have B1:=yT B0 b1;have K1:=yB KX b1;clear b1 B0 KX;have hl:=K1.o.lt;have d0:=K1.o.cell 0;have d1:=K1.o.cell 1;have d2:=K1.o.cell 2;have d3:=K1.o.cell 3;have d4:=K1.o.cell 4;simp at d0 d1 d2 d3 d4;go_wp2_with fail;refine(C1.o _ B1.o).mono ?_;rintro e w1 ⟨rfl,rfl⟩;go_wp2_with fail;refine(C2.o _ B1.o).mono ?_;rintro e w1 ⟨rfl,rfl⟩;go_wp2_with fail;go_ret;exact⟨rfl,B1.o⟩
 have q2:=Decidable.not_not.1 q2
 by_cases q3:¬0≤x.db
 ·have s1:decide (1≤x.li)=true:=by simp;omega
  have s2:decide (x.li≤1099511627776)=true:=by simp;omega
  have s3:decide (0≤x.db)=false:=by simp;omega
  rw[decide_eq_false (fun k=>q3 k.2.2.1)];go_enter Tryz.func106,Tryz.ntmps106;go_wp2_with fail;refine C0.o.mono ?_;rintro e w1 ⟨rfl,b1⟩;have B1:=yT B0 b1;have K1:=yB KX b1;clear b1 B0 KX;have hl:=K1.o.lt;have d0:=K1.o.cell 0;have d1:=K1.o.cell 1;have d2:=K1.o.cell 2;have d3:=K1.o.cell 3;have d4:=K1.o.cell 4;simp at d0 d1 d2 d3 d4;go_wp2_with fail;refine(C1.o _ B1.o).mono ?_;rintro e w1 ⟨rfl,rfl⟩;go_wp2_with fail;refine(C2.o _ B1.o).mono ?_;rintro e w1 ⟨rfl,rfl⟩;go_wp2_with fail;go_ret;exact⟨rfl,B1.o⟩
 have q3:=Decidable.not_not.1 q3;rw[show decide (1≤x.li∧x.li≤1099511627776∧0≤x.db∧x.db≤x.li)=decide (x.db≤x.li)from decide_eq_decide.2 ⟨fun k=>k.2.2.2,fun k=>⟨q1,q2,q3,k⟩⟩];go_enter Tryz.func106,Tryz.ntmps106;go_wp2_with fail;refine C0.o.mono ?_;rintro e w1 ⟨rfl,b1⟩;have B1:=yT B0 b1;have K1:=yB KX b1;clear b1 B0 KX;have hl:=K1.o.lt;have d0:=K1.o.cell 0;have d1:=K1.o.cell 1;have d2:=K1.o.cell 2;have d3:=K1.o.cell 3;have d4:=K1.o.cell 4;simp at d0 d1 d2 d3 d4;go_wp2_with fail;refine(C1.o _ B1.o).mono ?_;rintro e w1 ⟨rfl,rfl⟩;go_wp2_with fail;refine(C2.o _ B1.o).mono ?_;rintro e w1 ⟨rfl,rfl⟩;go_wp2_with fail;go_ret;exact⟨rfl,B1.o⟩
end Go.Proofs.YtngnfdnfpiiclaaGreat
