/- Pieces of one proof. -/
import Derived.Test.YtaeocliklpcgmaaGreatV07
import Derived.Test.YtaeocliklpcgmaaGreatV17
import Derived.Shelf.SlSortCmp.NoneTotal
set_option linter.all false
set_option maxHeartbeats 64000000
set_option maxRecDepth 100000
namespace Go.Proofs.YtaeocliklpcgmaaGreat
open Go.RowKit
theorem aLh{w:World}{b o:Nat}{ls:List Of}(h:∀j,j<ls.length*7→w.cell? ⟨b,o+j,none⟩=(aAa ls)[j]?){k:Nat}(hk:k<ls.length):
  w.cell? ⟨b,o+k*7,none⟩=some (.int .u64 ls[k].se)∧w.cell? ⟨b,o+k*7+1,none⟩=some (.int .u8 ls[k].ow)∧w.cell? ⟨b,o+k*7+2,none⟩=some (.int .u8 ls[k].sl)∧w.cell? ⟨b,o+k*7+3,none⟩=some (.int .u8 ls[k].bu)∧w.cell? ⟨b,o+k*7+4,none⟩=some (.int .i64 ls[k].lf)∧w.cell? ⟨b,o+k*7+5,none⟩=some (.int .i64 ls[k].nu)∧w.cell? ⟨b,o+k*7+6,none⟩=some (.int .i64 ls[k].de):=by
 have q:∀j,j<7→w.cell? ⟨b,o+k*7+j,none⟩=ls[k].vals[j]? := fun j hj=>by
  have:=h (k*7+j) (by omega);rw[aA8 ls k j hj hk,←Nat.add_assoc]at this;exact this
 exact⟨q 0 (by omega),q 1 (by omega),q 2 (by omega),q 3 (by omega),q 4 (by omega),q 5 (by omega),q 6 (by omega)⟩
structure OkTo(l:List Of)(last:Int):Prop where
 rise:l.Pairwise fun x y=>x.se<y.se
 ok:∀x∈l,x.may∧1≤x.se∧x.se≤last
 last:(l=[]∧last=0)∨∃x∈l,x.se=last
theorem OkTo.nil:OkTo [] 0:=⟨List.Pairwise.nil,by simp,.inl ⟨rfl,rfl⟩⟩
theorem OkTo.nonneg{l:List Of}{last:Int}(h:OkTo l last):0≤last:=by
 rcases h.last with⟨_,h⟩|⟨x,hx,h⟩
 ·omega
 have:=(h ▸ (‹OkTo l last›).ok x hx).2.1;omega
theorem OkTo.next{l:List Of}{last:Int}{k:Nat}(hk:k<l.length)(h:OkTo (l.take k) last)(hm:l[k].may)(hs:last<l[k].se):OkTo (l.take (k+1)) l[k].se:=by
 have h0:=h.nonneg;rw[List.take_succ_eq_append_getElem hk];refine⟨?_,fun x hx=>?_,.inr ⟨l[k],List.mem_append_right _ (List.mem_singleton.2 rfl),rfl⟩⟩
 ·rw[List.pairwise_append];refine⟨h.rise,by simp,fun a ha b hb=>?_⟩;rw[List.mem_singleton]at hb;subst hb;have:=(h.ok a ha).2.2;omega
 rcases List.mem_append.1 hx with hx|hx
 ·obtain⟨a,b,c⟩:=h.ok x hx;exact⟨a,b,by omega⟩
 rw[List.mem_singleton]at hx;subst hx;exact⟨hm,by omega,Int.le_refl _⟩
theorem OkTo.good{l:List Of}{last nx:Int}(h:OkTo l last)(hn:last<nx):okO nx l∧nx≠0:=by
 have:=h.nonneg;exact⟨⟨h.rise,fun x hx=>by obtain⟨a,b,c⟩:=h.ok x hx;exact⟨a,by omega,by omega⟩⟩,by omega⟩
theorem OkTo.bad{l:List Of}{last nx:Int}{k:Nat}(hk:k<l.length)(h:OkTo (l.take k) last)(h0:0≤l[k].se)(hb:¬l[k].may∨l[k].se≤last):¬(okO nx l∧nx≠0):=by
 rintro⟨⟨h1,h2⟩,_⟩;obtain⟨m,z,_⟩:=h2 _ (List.getElem_mem hk);rcases hb with hb|hb
 ·exact hb m
 rcases h.last with⟨_,e⟩|⟨x,hx,e⟩
 ·omega
 obtain⟨j,hj,rfl⟩:=List.mem_take_iff_getElem.1 hx;have:=List.pairwise_iff_getElem.1 h1 j k (by omega) hk (by omega);omega
theorem OkTo.late{l:List Of}{last nx:Int}(h:OkTo l last)(h0:0≤nx)(hb:nx≤last):¬(okO nx l∧nx≠0):=by
 rintro⟨⟨_,h2⟩,hz⟩;rcases h.last with⟨_,e⟩|⟨x,hx,e⟩
 ·omega
 have:=(h2 x hx).2.2;omega
def POfPost(w:World)(l:List Of)(nx:Int)(e:Ending)(w':World):Prop:=
 Below w.heap.size w w'∧((l.length≤32∧okO nx l∧nx≠0∧∃g vl,e=.returned (.tuple #[.pointer (some ⟨g,0,none⟩),.int .i64 0])∧PB w' w.heap.size g l nx vl)∨
  (e=.returned (.tuple #[.pointer none,.int .i64 9])∧32<l.length)∨(e=.returned (.tuple #[.pointer none,.int .i64 1])∧l.length≤32∧¬(okO nx l∧nx≠0)))
def POfAt(w:World)(l:List Of)(nx:Int)(s7 s18:Value)(wr:World):Prop:=
 ∃(k:Nat) (last:Int) (vl:Value),k≤l.length∧s18=.int .i64 k∧s7=.int .u64 last∧OkTo (l.take k) last∧PB wr w.heap.size w.heap.size (l.take k) nx vl∧Below w.heap.size w wr
theorem pofB_any{w:World}{v:Value}{l:List Of}{nx:Int}(hp:aLv w v 7 l.length (aAa l))(hf:∀x∈l,x.Fits)(h0:0≤nx)(h1:nx≤18446744073709551615):
  Calls Tryz.prog 147 #[v,.int .u64 nx] w (POfPost w l nx):=by
 obtain⟨ai,capi,hv,hn,hxl,hrd⟩:=hp;subst hv;have HR:=yH hrd;have HF:=yH hf;clear hxl hrd hf
 by_cases h32:32<l.length
 ·have q0:decide (32<(l.length:Int))=true:=by simp;omega
  have H32:=yH h32;clear h32;go_enter Tryz.func147,Tryz.ntmps147;go_wp2_with fail;refine bodyPost_ret (v:=.tuple #[.pointer none,.int .i64 9]) (by simp[results,Tryz.results147,go_sem]) rfl ?_;exact⟨yZ,.inr (.inl ⟨rfl,H32.out⟩)⟩
 have q0:decide (32<(l.length:Int))=false:=by simp;omega
 have h32:l.length≤32:=by omega
 have KG:=yH (pAA w #[.slice none 0 0,.int .u64 nx] 63);have B0:=yH ((Below.refl w.heap.size w).alloc yL (.cells #[.slice none 0 0,.int .u64 nx] 63));go_enter Tryz.func147,Tryz.ntmps147;go_wp2_with fail
 go_loopw [7,18] (POfAt w l nx) (fun _ i _=>l.length - (intOf i).toNat)
 case atStart=>exact⟨0,0,.slice none 0 0,Nat.zero_le _,rfl,rfl,OkTo.nil,⟨KG.out,Nat.le_refl _,World.ownsRow_nil _ _ _ _⟩,B0.out⟩
 obtain⟨k,last,vl,hk,rfl,rfl,hO,hP,hb⟩:=hrel;have hl0:=hO.nonneg
 by_cases hkl:k<l.length
 ·obtain⟨b,o,rfl,hbl,hcell⟩:=HR.out (by omega);obtain⟨e0,e1,e2,e3,e4,e5,e6⟩:=aLh (w:=wr) (fun j hj=>by rw[hb.cell (p:=⟨b,o+j,none⟩) hbl];exact hcell j hj) hkl;have hbl2:b<wr.heap.size:=yM hbl hb.size;have hx:=HF.out _ (List.getElem_mem hkl);have BD:=yH (fun h=>OkTo.bad (nx:=nx) hkl hO hx.se.1 h);have NX:=yH (fun h1 h2=>OkTo.next hkl hO h1 h2);have TK:=yH (List.take_succ_eq_append_getElem hkl);have hlk:(l.take k).length≤32:=Nat.le_trans (List.length_take_le _ _) (by omega);have HX:=yH hx;clear hcell hx hO;generalize l[k]=x at *;generalize l.take k=out at *;have bw:=(Below.refl wr.heap.size wr).alloc yL (.cells #[.int .u64 x.se,.int .u8 x.ow,.int .u8 x.sl,.int .u8 x.bu,.int .i64 x.lf,.int .i64 x.nu,.int .i64 x.de] 48);have K0:=yH (pAA wr #[.int .u64 x.se,.int .u8 x.ow,.int .u8 x.sl,.int .u8 x.bu,.int .i64 x.lf,.int .i64 x.nu,.int .i64 x.de] 48);have HP0:=yH (hP.below bw);have HNF:=yH (show ¬Foot w.heap.size vl wr.heap.size from fun h=>by have:=(hP.lt h).2;omega);have HBW:=yH (hb.trans (bw.mono hb.size));have CM:=yH (pmay_any x (wr.alloc (.cells #[.int .u64 x.se,.int .u8 x.ow,.int .u8 x.sl,.int .u8 x.bu,.int .i64 x.lf,.int .i64 x.nu,.int .i64 x.de] 48)) HX.out);clear bw hP hb
  by_cases hm:x.may
  ·rw[decide_eq_true hm]at CM
   by_cases hs:x.se≤last
   ·have HBad:=yH (BD.out (.inr hs));clear BD NX hm TK;go_wp2_with fail;refine CM.out.mono ?_;rintro e w3 ⟨rfl,b3⟩;have K3:=K0.out.below b3 K0.out.lt;have d0:=K3.cell 0;have dl:=K3.lt;simp at d0;have HB3:=yT HBW b3;clear b3 K3 CM;go_wp2_with fail;refine bodyPost_ret (v:=.tuple #[.pointer none,.int .i64 1]) (by simp[results,Tryz.results147,go_sem]) rfl ?_;exact⟨HB3.out,.inr (.inr ⟨rfl,h32,HBad.out⟩)⟩
   have hs':last<x.se:=by omega
   have HN:=yH (NX.out hm hs');clear BD NX hm hs;go_wp2_with fail;refine CM.out.mono ?_;rintro e w3 ⟨rfl,b3⟩;have HA4:=yB K0 b3;have HG4':=HP0.out.below b3;have HB3:=yT HBW b3;clear b3 CM HP0 HBW K0;obtain⟨ao,cap,hvl,hc1,hc2,_⟩:=aAe HG4'.row;subst hvl;have HG4:=yH HG4';clear HG4';unfold maxLen at hc2;have d0:=HA4.out.cell 0;have dl:=HA4.out.lt;simp at d0;go_wp2_with fail;clear d0 dl;have hgl:=HG4.out.blk.lt;have d0:=HG4.out.blk.cell 0;simp at d0;have hal:=HA4.out.lt;have a0:=HA4.out.cell 0;have a1:=HA4.out.cell 1;have a2:=HA4.out.cell 2;have a3:=HA4.out.cell 3;have a4:=HA4.out.cell 4;have a5:=HA4.out.cell 5;have a6:=HA4.out.cell 6;simp at a0 a1 a2 a3 a4 a5 a6;have hbs:=Nat.le_trans HG4.out.ge (Nat.le_of_lt hgl)
   go_region_law (refine aEr rfl (.tmp 35) (.tmp 37) 61 rfl w.heap.size 129 Tryz.underlying61 rfl aF0 (.slice ao out.length cap) out rfl (aAn HG4.out.row (yZ.drew.alloc yL _)) w3.heap.size 1 x rfl (pAA w3.drew _ _) (by omega) (by simp;omega) ?_;intro v' w' ho hgr hat;have HAP:=yH (appended HG4.out ho hgr hat);have hB:=HAP.out.1;have d1:=hB.cell 0;have f1:=hB.frozen 0;have l1:=hB.lt;simp at d1;obtain⟨ao',cap',hv',_⟩:=aAe ho;obtain⟨ln,hln⟩:∃ln,(out++[x]).length=ln:=⟨_,rfl⟩;rw[hln]at hv';subst hv';clear hln;clear ho hgr hat hB d0)
   all_goals
    have HE:=yH HAP.out.2;clear HAP d1 f1 l1;have e3:=HE.out.2.2 HA4.out HNF.out;have e4:=e3.cell 0;have e5:=e3.lt;simp at e4;clear e3;go_wp2_with fail;go_roundw
    case rel=>exact⟨k+1,x.se,_,by omega,by go_num,by first|rfl|go_num,HN.out,by rw[TK.out];exact HE.out.1,HB3.out.trans (HE.out.2.1.1.below HB3.out.size (fun j hj hf=>by have:=(HG4.out.lt hf).1;omega))⟩
    case measure=>simp[intOf];omega
  rw[decide_eq_false hm]at CM;have HBad:=yH (BD.out (.inl hm));clear BD NX hm TK;go_wp2_with fail;refine CM.out.mono ?_;rintro e w3 ⟨rfl,b3⟩;have HB3:=yT HBW b3;clear b3 CM;go_wp2_with fail;refine bodyPost_ret (v:=.tuple #[.pointer none,.int .i64 1]) (by simp[results,Tryz.results147,go_sem]) rfl ?_;exact⟨HB3.out,.inr (.inr ⟨rfl,h32,HBad.out⟩)⟩
 have hke:l.take k=l:=List.take_of_length_le (by omega);rw[hke]at hO hP
 by_cases hs:nx≤last
 ·have HBad:=yH (hO.late h0 hs);have HB:=yH hb;clear hO hP hb hke;go_wp2_with fail;refine bodyPost_ret (v:=.tuple #[.pointer none,.int .i64 1]) (by simp[results,Tryz.results147,go_sem]) rfl ?_;exact⟨HB.out,.inr (.inr ⟨rfl,h32,HBad.out⟩)⟩
 have HG:=yH (hO.good (nx:=nx) (by omega));have HB:=yH hb;have HP:=yH hP;clear hO hP hb hke;go_wp2_with fail;refine bodyPost_ret (v:=.tuple #[.pointer (some ⟨w.heap.size,0,none⟩),.int .i64 0]) (by simp[results,Tryz.results147,go_sem]) rfl ?_;exact⟨HB.out,.inl ⟨h32,HG.out.1,HG.out.2,w.heap.size,vl,rfl,HP.out⟩⟩
theorem cmade_of{w:World}{a b:Option Addr}{er:Int}(h:∀w',Below w.heap.size w w'→Calls Tryz.prog 87 #[.agg #[.pointer a,.pointer b],.int .u64 0,.int .u8 0,.int .u8 0,.int .i64 0] w' fun e w''=>e=.returned (.tuple #[aG0,.int .i64 er])∧Below w'.heap.size w' w''):
  Calls Tryz.prog 101 #[.agg #[.pointer a,.pointer b]] w (yR w (.bool (er != 2))):=by
 have b0:=(Below.refl w.heap.size w).alloc yL (.cells #[.pointer a,.pointer b] 31);have K:=yH (pAA w #[.pointer a,.pointer b] 31);have B:=yH b0;have C:=yH (h _ b0);clear b0 h;obtain⟨q,hq⟩:∃q,(er != 2)=q:=⟨_,rfl⟩;rw[hq];unfold aG0 at C;generalize hW:w.alloc (.cells #[.pointer a,.pointer b] 31)=W at *;have HW:=yH hW;clear hW;have c0:=K.out.cell 0;have c1:=K.out.cell 1;have cl:=K.out.lt;simp at c0 c1;clear K;go_enter Tryz.func101,Tryz.ntmps101
 go_upto_region 1 with fail
 rw[HW.out];go_wp2_with fail;refine C.out.mono ?_;rintro e w1 ⟨rfl,b1⟩;have B1:=yH ((B.out.trans (b1.mono B.out.size)).alloc (Nat.le_trans B.out.size b1.size) (.cells #[.int .u64 0,.int .u8 0,.int .u8 0,.int .i64 0,.int .i64 0] 73));clear b1 c0 c1 cl C B;go_wp2_with fail;go_ret;exact⟨rfl,B1.out⟩
theorem cmade_any(HD:aFm){w:World}{base G M gb:Nat}{ps:List Int}{ls:List Ln}{l:List Of}{N:Int}{vb:Value}(hL:LedM w G M ps ls)(hI:LInv ps ls)(hP:PB w base gb l N vb)(hJ:BInv l N):
  Calls Tryz.prog 101 #[.agg #[.pointer (some ⟨G,0,none⟩),.pointer (some ⟨gb,0,none⟩)]] w (yR w (.bool true)):=
 cmade_of (er:=1) (fun w' b=>(aJ5 HD (hL.below b) hI (hP.below b) hJ 0 0 0 0 (by omega) (by unfold In8;omega) (by unfold In8;omega) (by unfold In64;omega)).mono (by
  rintro e w'' (⟨_,h1,h2⟩|⟨h,_⟩)
  ·exact⟨h1,h2⟩
  exact absurd h.1 (by omega)))
theorem may_one(x:Of):(okO 2 [(⟨1,x.ow,x.sl,x.bu,x.lf,x.nu,x.de⟩:Of)]∧(2:Int)≠0)↔x.may:=by
 constructor
 ·rintro⟨⟨_,h⟩,_⟩;exact(h _ List.mem_cons_self).1
 intro h;refine⟨⟨List.pairwise_singleton _ _,fun y hy=>?_⟩,by decide⟩;rw[List.mem_singleton]at hy;subst hy;exact⟨h,by show(1:Int)≠0;decide,by show(1:Int)<2;decide⟩
theorem cmay_any(x:Of)(hx:x.Fits)(w:World):Calls Tryz.prog 102 #[.agg #[.int .u64 x.se,.int .u8 x.ow,.int .u8 x.sl,.int .u8 x.bu,.int .i64 x.lf,.int .i64 x.nu,.int .i64 x.de]] w (yR w (.bool (decide x.may))):=by
 have b0:=(Below.refl w.heap.size w).alloc yL (.cells #[.int .u64 x.se,.int .u8 x.ow,.int .u8 x.sl,.int .u8 x.bu,.int .i64 x.lf,.int .i64 x.nu,.int .i64 x.de] 100);have K:=yH (pAA w #[.int .u64 x.se,.int .u8 x.ow,.int .u8 x.sl,.int .u8 x.bu,.int .i64 x.lf,.int .i64 x.nu,.int .i64 x.de] 100);have B:=yH b0;have HX:=yH hx;obtain⟨q,hq⟩:∃q,decide x.may=q:=⟨_,rfl⟩;have HQ:=yH hq;rw[hq];clear b0 hx hq;generalize hW:w.alloc (.cells #[.int .u64 x.se,.int .u8 x.ow,.int .u8 x.sl,.int .u8 x.bu,.int .i64 x.lf,.int .i64 x.nu,.int .i64 x.de] 100)=W at *;have HW:=yH hW;clear hW;have fz:=K.out.frozen 0;have cl:=K.out.lt;have z0:=K.out.cell 0;simp at z0;have K2:=yH (K.out.set 0 (.int .u64 1));go_enter Tryz.func102,Tryz.ntmps102
 go_upto_region 1 with fail
 rw[HW.out]
 go_upto_region 2 with fail
 have B2:=yH (B.out.setCell (p:=⟨w.heap.size,0,none⟩) (by show w.heap.size≤w.heap.size;omega) (.int .u64 1));clear fz cl z0 K B;generalize W.setCell ⟨w.heap.size,0,none⟩ (.int .u64 1)=W2 at *;have c0:=K2.out.cell 0;have c1:=K2.out.cell 1;have c2:=K2.out.cell 2;have c3:=K2.out.cell 3;have c4:=K2.out.cell 4;have c5:=K2.out.cell 5;have c6:=K2.out.cell 6;have cl:=K2.out.lt;simp at c0 c1 c2 c3 c4 c5 c6;have bl:=(Below.refl W2.heap.size W2).alloc yL (.cells #[.int .u64 1,.int .u8 x.ow,.int .u8 x.sl,.int .u8 x.bu,.int .i64 x.lf,.int .i64 x.nu,.int .i64 x.de] 48);have KL:=yH (pAA W2 #[.int .u64 1,.int .u8 x.ow,.int .u8 x.sl,.int .u8 x.bu,.int .i64 x.lf,.int .i64 x.nu,.int .i64 x.de] 48);have B3:=yT B2 bl
 have RD:Hid (aLv (W2.alloc (.cells #[.int .u64 1,.int .u8 x.ow,.int .u8 x.sl,.int .u8 x.bu,.int .i64 x.lf,.int .i64 x.nu,.int .i64 x.de] 48)) (.slice (some ⟨W2.heap.size,0,none⟩) 1 1) 7 [(⟨1,x.ow,x.sl,x.bu,x.lf,x.nu,x.de⟩:Of)].length (aAa [(⟨1,x.ow,x.sl,x.bu,x.lf,x.nu,x.de⟩:Of)])):=yH (by
  refine⟨_,1,rfl,by show(1:Nat)≤100000000;decide,rfl,fun _=>⟨W2.heap.size,0,rfl,KL.out.lt,fun j hj=>?_⟩⟩;rw[Nat.zero_add,KL.out.cell j];have hj7:j<7:=hj;rcases(by omega:j=0∨j=1∨j=2∨j=3∨j=4∨j=5∨j=6)with rfl|rfl|rfl|rfl|rfl|rfl|rfl <;> rfl)
 have CO:=yH (pofB_any (nx:=2) RD.out (fun y hy=>by rw[List.mem_singleton]at hy;subst hy;exact⟨by show(0:Int)≤1∧(1:Int)≤18446744073709551615;decide,HX.out.ow,HX.out.sl,HX.out.bu,HX.out.lf,HX.out.nu,HX.out.de⟩) (by decide) (by decide));have QY:Hid ((okO 2 [(⟨1,x.ow,x.sl,x.bu,x.lf,x.nu,x.de⟩:Of)]∧(2:Int)≠0)↔x.may):=yH (may_one x);clear bl RD;go_wp2_with fail;generalize W2.alloc (.cells #[.int .u64 1,.int .u8 x.ow,.int .u8 x.sl,.int .u8 x.bu,.int .i64 x.lf,.int .i64 x.nu,.int .i64 x.de] 48)=W3 at *;refine CO.out.mono ?_;rintro e w1 ⟨b1,hp⟩;have B4:=yT B3 b1;clear b1 c0 c1 c2 c3 c4 c5 c6 cl CO KL K2 B2;rcases hp with⟨_,h1,h2,g,vl,rfl,_⟩|⟨rfl,h⟩|⟨rfl,_,h⟩
 ·obtain rfl:true=q:=by rw[←HQ.out,decide_eq_true (QY.out.1 ⟨h1,h2⟩)]
  clear h1 h2;go_wp2_with fail;go_ret;exact⟨rfl,B4.out⟩
 ·exact absurd h (by show ¬32<1;decide)
 obtain rfl:false=q:=by rw[←HQ.out,decide_eq_false (fun q=>h (QY.out.2 q))]
 clear h;go_wp2_with fail;go_ret;exact⟨rfl,B4.out⟩
def aE5(ps:List Int)(x:Of):Int:=if ¬x.may then 1 else if x.ow∉ps then 7 else 0
theorem aMz{w:World}{a b:Option Addr}(x:Of)(h:∀w',Below w.heap.size w w'→Calls Tryz.prog 101 #[.agg #[.pointer a,.pointer b]] w' fun e w''=>e=.returned (.bool false)∧Below w'.heap.size w' w''):
  Calls Tryz.prog 44 #[.agg #[.int .u64 x.se,.int .u8 x.ow,.int .u8 x.sl,.int .u8 x.bu,.int .i64 x.lf,.int .i64 x.nu,.int .i64 x.de],.agg #[.pointer a,.pointer b]] w (yR w (.int .i64 2)):=by
 have b0:=((Below.refl w.heap.size w).alloc yL (.cells #[.int .u64 x.se,.int .u8 x.ow,.int .u8 x.sl,.int .u8 x.bu,.int .i64 x.lf,.int .i64 x.nu,.int .i64 x.de] 100));have b1:=b0.alloc b0.size (.cells #[.pointer a,.pointer b] 31);have K:=yH (pAC (w.alloc (.cells #[.int .u64 x.se,.int .u8 x.ow,.int .u8 x.sl,.int .u8 x.bu,.int .i64 x.lf,.int .i64 x.nu,.int .i64 x.de] 100)) #[.pointer a,.pointer b] 31 (g:=w.heap.size+1) (by simp));have B:=yH b1;have C:=yH (h _ b1);clear b0 b1 h;generalize hW:(w.alloc (.cells #[.int .u64 x.se,.int .u8 x.ow,.int .u8 x.sl,.int .u8 x.bu,.int .i64 x.lf,.int .i64 x.nu,.int .i64 x.de] 100)).alloc (.cells #[.pointer a,.pointer b] 31)=W at *;have HW:=yH hW;clear hW;have c0:=K.out.cell 0;have c1:=K.out.cell 1;have cl:=K.out.lt;simp at c0 c1;clear K;go_enter Tryz.func44,Tryz.ntmps44
 go_upto_region 1 with fail
 rw[HW.out];go_wp2_with fail;refine C.out.mono ?_;rintro e w1 ⟨rfl,b1⟩;have B1:=yT B b1;clear b1 c0 c1 cl C B;go_wp2_with fail;go_ret;exact⟨rfl,B1.out⟩
theorem cwrong_any(HD:aFm){w:World}{base G M gb:Nat}{ps:List Int}{ls:List Ln}{l:List Of}{N:Int}{vb:Value}(hL:LedM w G M ps ls)(hI:LInv ps ls)(hP:PB w base gb l N vb)(hJ:BInv l N)(x:Of)(hx:x.Fits):
  Calls Tryz.prog 44 #[.agg #[.int .u64 x.se,.int .u8 x.ow,.int .u8 x.sl,.int .u8 x.bu,.int .i64 x.lf,.int .i64 x.nu,.int .i64 x.de],.agg #[.pointer (some ⟨G,0,none⟩),.pointer (some ⟨gb,0,none⟩)]] w (yR w (.int .i64 (aE5 ps x))):=by
 have b0:=((Below.refl w.heap.size w).alloc yL (.cells #[.int .u64 x.se,.int .u8 x.ow,.int .u8 x.sl,.int .u8 x.bu,.int .i64 x.lf,.int .i64 x.nu,.int .i64 x.de] 100));have b1:=b0.alloc b0.size (.cells #[.pointer (some ⟨G,0,none⟩),.pointer (some ⟨gb,0,none⟩)] 31);have KS:=yH ((pAA w #[.int .u64 x.se,.int .u8 x.ow,.int .u8 x.sl,.int .u8 x.bu,.int .i64 x.lf,.int .i64 x.nu,.int .i64 x.de] 100).alloc (.cells #[.pointer (some ⟨G,0,none⟩),.pointer (some ⟨gb,0,none⟩)] 31));have KH:=yH (pAC (w.alloc (.cells #[.int .u64 x.se,.int .u8 x.ow,.int .u8 x.sl,.int .u8 x.bu,.int .i64 x.lf,.int .i64 x.nu,.int .i64 x.de] 100)) #[.pointer (some ⟨G,0,none⟩),.pointer (some ⟨gb,0,none⟩)] 31 (g:=w.heap.size+1) (by simp));have HL:=yH (hL.below b1);have C:=yH (cmade_any HD (hL.below b1) hI (hP.below b1) hJ);have B:=yH b1;have HB:=yH hI.bd;have CM:=yH (fun w=>cmay_any x hx w);obtain⟨R,hR⟩:∃R,aE5 ps x=R:=⟨_,rfl⟩;rw[hR];have HR:=yH hR;clear b0 b1 hL hI hP hJ hR hx;generalize hW:(w.alloc (.cells #[.int .u64 x.se,.int .u8 x.ow,.int .u8 x.sl,.int .u8 x.bu,.int .i64 x.lf,.int .i64 x.nu,.int .i64 x.de] 100)).alloc (.cells #[.pointer (some ⟨G,0,none⟩),.pointer (some ⟨gb,0,none⟩)] 31)=W at *;have HW:=yH hW;clear hW;have c0:=KH.out.cell 0;have c1:=KH.out.cell 1;have cl:=KH.out.lt;simp at c0 c1;go_enter Tryz.func44,Tryz.ntmps44
 go_upto_region 1 with fail
 rw[HW.out];go_wp2_with fail;refine C.out.mono ?_;rintro e w1 ⟨rfl,b1⟩;have HL1:=yH (HL.out.below b1);have KS1:=yB KS b1;have KH1:=yB KH b1;have B1:=yT B b1;clear b1 c0 c1 cl C B HL KS KH;have s0:=KS1.out.cell 0;have s1:=KS1.out.cell 1;have s2:=KS1.out.cell 2;have s3:=KS1.out.cell 3;have s4:=KS1.out.cell 4;have s5:=KS1.out.cell 5;have s6:=KS1.out.cell 6;have sl:=KS1.out.lt;simp at s0 s1 s2 s3 s4 s5 s6
 by_cases hm:x.may
 ·rw[decide_eq_true hm]at CM;have HMY:=yH hm;clear hm;go_wp2_with fail;refine(CM.out _).mono ?_;rintro e w2 ⟨rfl,b2⟩;have HL2:=yH (HL1.out.below b2);have KS2:=yB KS1 b2;have KH2:=yB KH1 b2;have B2:=yT B1 b2;clear b2 s0 s1 s2 s3 s4 s5 s6 sl CM B1 HL1 KS1 KH1;have s1:=KS2.out.cell 1;have sl:=KS2.out.lt;have c0:=KH2.out.cell 0;have c1:=KH2.out.cell 1;have cl:=KH2.out.lt;simp at s1 c0 c1;have CF:=yH (aGf HL2.out.blk HB.out x.ow)
  by_cases hf:x.ow∈ps
  ·rw[decide_eq_true hf]at CF;have EE:Hid (R=0):=yH (by rw[←HR.out];unfold aE5;rw[if_neg (fun h=>h HMY.out),if_neg (fun h=>h hf)]);clear hf;go_wp2_with fail;refine CF.out.mono ?_;rintro e w3 ⟨rfl,rfl⟩;go_wp2_with fail;go_ret;exact⟨by rw[EE.out];rfl,B2.out⟩
  rw[decide_eq_false hf]at CF;have EE:Hid (R=7):=yH (by rw[←HR.out];unfold aE5;rw[if_neg (fun h=>h HMY.out),if_pos hf]);clear hf;go_wp2_with fail;refine CF.out.mono ?_;rintro e w3 ⟨rfl,rfl⟩;go_wp2_with fail;go_ret;exact⟨by rw[EE.out];rfl,B2.out⟩
 rw[decide_eq_false hm]at CM;have EE:Hid (R=1):=yH (by rw[←HR.out];unfold aE5;rw[if_pos hm]);clear hm;go_wp2_with fail;refine(CM.out _).mono ?_;rintro e w2 ⟨rfl,b2⟩;have B2:=yT B1 b2;clear b2 s0 s1 s2 s3 s4 s5 s6 sl CM B1;go_wp2_with fail;go_ret;exact⟨by rw[EE.out];rfl,B2.out⟩
theorem crest_none(x:Of)(hn:x.lf<1)(b:Option Addr)(w:World):
  Calls Tryz.prog 46 #[.agg #[.int .u64 x.se,.int .u8 x.ow,.int .u8 x.sl,.int .u8 x.bu,.int .i64 x.lf,.int .i64 x.nu,.int .i64 x.de],.pointer b] w (yR w (.tuple #[.int .u64 0,.int .i64 0])):=by
 have b0:=((Below.refl w.heap.size w).alloc yL (.cells #[.int .u64 x.se,.int .u8 x.ow,.int .u8 x.sl,.int .u8 x.bu,.int .i64 x.lf,.int .i64 x.nu,.int .i64 x.de] 100));have KS:=yH (pAA w #[.int .u64 x.se,.int .u8 x.ow,.int .u8 x.sl,.int .u8 x.bu,.int .i64 x.lf,.int .i64 x.nu,.int .i64 x.de] 100);have B:=yH b0;have q0:decide (x.lf<1)=true:=by simpa using hn
 clear b0 hn;generalize hW:w.alloc (.cells #[.int .u64 x.se,.int .u8 x.ow,.int .u8 x.sl,.int .u8 x.bu,.int .i64 x.lf,.int .i64 x.nu,.int .i64 x.de] 100)=W at *;have HW:=yH hW;clear hW;have s4:=KS.out.cell 4;have sl:=KS.out.lt;simp at s4;go_enter Tryz.func46,Tryz.ntmps46
 go_upto_region 1 with fail
 rw[HW.out];go_wp2_with fail;go_ret2;exact⟨rfl,B.out⟩
theorem crest_any{w:World}{base g:Nat}{l:List Of}{N:Int}{vl:Value}(h:PB w base g l N vl)(hI:BInv l N)(x:Of)(hx:x.Fits)(hn:¬x.lf<1):
  Calls Tryz.prog 46 #[.agg #[.int .u64 x.se,.int .u8 x.ow,.int .u8 x.sl,.int .u8 x.bu,.int .i64 x.lf,.int .i64 x.nu,.int .i64 x.de],.pointer (some ⟨g,0,none⟩)] w fun e w'=>e=.returned (.tuple #[.int .u64 (aDf l ⟨N,x.ow,x.sl,x.bu,x.lf,x.nu,x.de⟩),.int .i64 (aBo l ⟨N,x.ow,x.sl,x.bu,x.lf,x.nu,x.de⟩)])∧
   ∃vl',PB w' base g (aCh l ⟨N,x.ow,x.sl,x.bu,x.lf,x.nu,x.de⟩) (aCi l ⟨N,x.ow,x.sl,x.bu,x.lf,x.nu,x.de⟩) vl'∧Keep (Foot g vl) w w'∧aC9 w vl vl':=by
 have b0:=((Below.refl w.heap.size w).alloc yL (.cells #[.int .u64 x.se,.int .u8 x.ow,.int .u8 x.sl,.int .u8 x.bu,.int .i64 x.lf,.int .i64 x.nu,.int .i64 x.de] 100));have KS:=yH (pAA w #[.int .u64 x.se,.int .u8 x.ow,.int .u8 x.sl,.int .u8 x.bu,.int .i64 x.lf,.int .i64 x.nu,.int .i64 x.de] 100);have B:=yH b0;have q0:decide (x.lf<1)=false:=by simpa using hn
 have CP:=yH (aGm (x:=⟨N,x.ow,x.sl,x.bu,x.lf,x.nu,x.de⟩) (h.below b0) hI ⟨⟨by have:=hI.n1;show 0≤N;omega,hI.n2⟩,hx.ow,hx.sl,hx.bu,hx.lf,hx.nu,hx.de⟩);obtain⟨rs,hrs⟩:∃rs,aDf l ⟨N,x.ow,x.sl,x.bu,x.lf,x.nu,x.de⟩=rs:=⟨_,rfl⟩;obtain⟨re,hre⟩:∃re,aBo l ⟨N,x.ow,x.sl,x.bu,x.lf,x.nu,x.de⟩=re:=⟨_,rfl⟩;rw[hrs,hre]at CP ⊢;dsimp only at CP;clear b0 hn h hI hx hrs hre;generalize hW:w.alloc (.cells #[.int .u64 x.se,.int .u8 x.ow,.int .u8 x.sl,.int .u8 x.bu,.int .i64 x.lf,.int .i64 x.nu,.int .i64 x.de] 100)=W at *;have HW:=yH hW;clear hW;have s1:=KS.out.cell 1;have s2:=KS.out.cell 2;have s3:=KS.out.cell 3;have s4:=KS.out.cell 4;have s5:=KS.out.cell 5;have s6:=KS.out.cell 6;have sl:=KS.out.lt;simp at s1 s2 s3 s4 s5 s6;go_enter Tryz.func46,Tryz.ntmps46
 go_upto_region 1 with fail
 rw[HW.out];go_wp2_with fail;refine CP.out.mono ?_;rintro e w1 ⟨rfl,vl',hP,k1,hm⟩;have HP:=yH hP;have K1:=yH ((pAE (S:=Foot g vl) B.out).trans k1);have M1:=yH (show aC9 w vl vl' from fun b hb=>(hm b hb).imp id (fun h=>Nat.le_trans B.out.size h));clear hP k1 hm CP s1 s2 s3 s4 s5 s6 sl;go_wp2_with fail;go_ret2;exact⟨rfl,vl',HP.out,K1.out,M1.out⟩
structure aJ6(B l:Nat)(W W':World):Prop where
 size:W.heap.size≤W'.heap.size
 same:∀k,B≤k→k≠l→k<W.heap.size→W'.heap[k]? = W.heap[k]?
structure aG3(B:Nat)(W W':World):Prop where
 size:W.heap.size≤W'.heap.size
 same:∀k,B≤k→k<W.heap.size→W'.heap[k]? = W.heap[k]?
theorem pAM{S:Nat→Prop}{B:Nat}{W W':World}(h:Keep S W W')(hS:∀k,B≤k→¬S k):aG3 B W W':=
 ⟨h.size,fun k hB hk=>h.block k hk (hS k hB)⟩
theorem Blk.old{W W':World}{B l g:Nat}{cs:Array Value}{t:TypeId}(h:Blk W g cs t)(k:aJ6 B l W W')(hB:B≤g)(hl:g≠l):Blk W' g cs t:=(k.same g hB hl h.lt).trans h
def SeqK(P:Program)(gf:FuncId)(lb:Array Value){St:Type}(s0:St)(S:St→Prop)(Y:St→Array Value→World→Prop)(next:St→St→Prop)(I:St→World→Prop):Prop:=
 ∀(n l B:Nat) (J:St→World→Prop) (Jx:World→Prop),(∀s W W',J s W→Below W.heap.size W W'→J s W')→(∀s W,J s W→I s W)→
  (∀m s vs W,J s W→Y s vs W→YieldAt Fence.wide m P l vs W fun e W'=>aJ6 B l W W'∧((e=.returned (.bool true)∧∃s',next s s'∧J s' W')∨(e=.returned (.bool false)∧Jx W')))→
  ∀W,J s0 W→B≤W.heap.size→l<W.heap.size→CallsIn Fence.wide n P gf (#[.func (.yield l) #[] #[]]++lb) W fun e W'=>(∃v,e=.returned v)∧((∃s,S s∧J s W')∨Jx W')
def aLi{St:Type}(B:Nat)(I:St→World→Prop)(Ix:Code→World→Prop)(next:St→St→Prop)(s:St)(W:World):Exit→Act→World→Prop
 | .normal,_,W'=>aG3 B W W'∧∃s',next s s'∧I s' W'
 | .ret,_,W'=>aG3 B W W'∧Ix .ret W'
 | .exit id,_,W'=>aG3 B W W'∧Ix (.exit id) W'
 | .goto t,_,W'=>aG3 B W W'∧Ix (.goto t) W'
 | .panic _,_,_=>False
 | .outgrown,_,_=>False
theorem wp_roundsK{P:Program}{g:Operand}{ps:Array Tmp}{assign body:Code}{Q:Exit→Act→World→Prop}{a:Act}{w:World}{St:Type}{gf:FuncId}{lb:Array Value}
  (hg:a.eval g=.func (.func gf) #[] lb)(eg:∀args w,(callFunc gf args).run P w=.ok (.enter gf args) w)
  (I:St→World→Prop)(Y:St→Array Value→World→Prop)(Ix:Code→World→Prop)(S:St→Prop)(next:St→St→Prop)(A:St→Array Value→Act→World→Prop)
  (hI:∀s,Fits w.heap.size (I s))(hIx:∀c,Fits w.heap.size (Ix c))(hA:∀s vs a,Fits w.heap.size (A s vs a))(hps:∀s vs W,Y s vs W→vs.size=ps.size)
  (s0:St)(hseq:SeqK P gf lb s0 S Y next I)(h0:I s0 w)
  (hassign:∀(m l:Nat) (s:St) (vs:Array Value) (W:World) (K:Act→World→Prop),I s W→Y s vs W→(∀a' W',Below W.heap.size W W'→A s vs a' W'→K a' W')→
   assign.wpIn (Fence.wide.inRound l) m P (Exit.then K fun _ _ _=>False) { tmps:=(ps.zip vs).foldl (fun t (p,v)=>t.setIfInBounds p v) a.tmps,defers:=[] } W)
  (hbody:∀(m l:Nat) (s:St) (vs:Array Value) (a':Act) (W:World),w.heap.size≤W.heap.size→I s W→A s vs a' W→body.wpIn (Fence.wide.inRound l) m P (aLi w.heap.size I Ix next s W) a' W)
  (hdone:∀(D:Nat) (s:St) (W:World),w.heap.size≤D→S s→I s W→W.heap[D]? = some (.deferred (some []))→Q .normal { a with defers:={ target:=.collected D,args:=#[] }::a.defers } W)
  (hstop:∀(D:Nat) (c:Code) (W:World),w.heap.size≤D→Ix c W→W.heap[D]? = some (.deferred (some []))→c.wp P Q { a with defers:={ target:=.collected D,args:=#[] }::a.defers } W):
  (Code.rangeFunc g ps assign body).wp P Q a w:=by
 refine(wpIn_wide (n:=0)).1 (wpIn_rangeFunc fun fn hfn=>?_);obtain⟨rec,hrec⟩:∃rec:LoopState→Option Code→Loop,rec=fun st pe=>{ state:=st,pending:=pe,fn,tmps:=a.tmps,params:=ps,assign,body,defers:=w.heap.size }:=⟨_,rfl⟩
 obtain⟨W1,hW1⟩:∃W1,(w.alloc (.deferred (some []))).alloc (.loop (rec .ready none))=W1:=⟨_,rfl⟩
 have hl1:W1.heap[w.heap.size+1]? = some (.loop (rec .ready none)):=by
  have e:=World.alloc_heap_new (w.alloc (.deferred (some []))) (.loop (rec .ready none));rw[World.size_alloc,hW1]at e;exact e
 have hd1:W1.heap[w.heap.size]? = some (.deferred (some [])):=by
  rw[←hW1];exact(Below.heap_alloc _ _ _ (by simp)).trans (World.alloc_heap_new w _)
 have hb1:Below w.heap.size w W1:=by
  rw[←hW1];exact((Below.refl _ w).alloc yL _).alloc (by simp) _
 have hI1:I s0 W1:=(hI s0).grow _ _ h0 hb1
 refine⟨w.heap.size+1,[{ target:=.collected w.heap.size,args:=#[] }],W1,{ target:=.fn (.func gf) lb,args:=#[.func (.yield (w.heap.size+1)) #[] #[]] },W1,gf,
  #[.func (.yield (w.heap.size+1)) #[] #[]]++lb,W1,?_,?_,fun _ _=>trivial,?_,fun hh=>(by cases hh),?_⟩
 ·rw[←hW1,hrec];exact run_enterLoop_outer _ _ _ _ _
 ·simp only[resolve,hg];simp[go_sem]
 ·simp[invoke,go_sem,eg]
 refine(hseq (0 - 1) (w.heap.size+1) w.heap.size (fun s W=>I s W∧W.heap[w.heap.size+1]? = some (.loop (rec .ready none))∧W.heap[w.heap.size]? = some (.deferred (some [])))
  (fun W=>∃c,Ix c W∧W.heap[w.heap.size+1]? = some (.loop (rec .done (some c)))∧W.heap[w.heap.size]? = some (.deferred (some [])))
  (fun s W W' h hb=>⟨(hI s).grow _ _ h.1 hb,(hb.block _ (Array.getElem?_eq_some_iff.1 h.2.1).1).trans h.2.1,(hb.block _ (Array.getElem?_eq_some_iff.1 h.2.2).1).trans h.2.2⟩)
  (fun s W h=>h.1) ?_ W1 ⟨hI1,hl1,hd1⟩ hb1.size (Array.getElem?_eq_some_iff.1 hl1).1).mono ?_
 ·rintro m s vs V ⟨hiV,hlV,hkV⟩ hy;have hry:=run_yield (P:=P) (args:=vs) hlV (by rw[hrec];exact hps s vs V hy);rw[hrec]at hry;refine⟨fn,_,assign,body,hry,roundIn_of_wpIn hfn (hassign m _ s vs V _ hiV hy (fun a1 W hb hAx=>?_))⟩;clear hry;have hi:=(hI s).grow _ _ hiV hb;have hl:=(hb.block _ (Array.getElem?_eq_some_iff.1 hlV).1).trans hlV;have hk:=(hb.block _ (Array.getElem?_eq_some_iff.1 hkV).1).trans hkV;have hlt:=(Array.getElem?_eq_some_iff.1 hl).1;have hltV:=(Array.getElem?_eq_some_iff.1 hlV).1;refine⟨_,run_beginRound hl (by rw[hrec]),?_⟩;obtain⟨W2,hW2⟩:∃W2,W.putObj (w.heap.size+1) (.loop { rec .ready none with state:=.busy })=W2:=⟨_,rfl⟩;have hl2:W2.heap[w.heap.size+1]? = some (.loop { rec .ready none with state:=.busy }):=by rw[←hW2];exact World.putObj_heap_same hlt
  have hk2:W2.heap[w.heap.size]? = some (.deferred (some [])):=by rw[←hW2];exact(World.putObj_heap_other (by omega)).trans hk
  have hs2:W2.heap.size=W.heap.size:=by rw[←hW2];simp[World.putObj]
  have ho2:∀k,k≠w.heap.size+1→W2.heap[k]? = W.heap[k]? := fun k hk=>by rw[←hW2];exact World.putObj_heap_other (by omega)
  have hi2:I s W2:=by rw[←hW2];exact(hI s).turn _ _ _ _ hi (by omega) hl rfl
  have hA2:A s vs a1 W2:=by rw[←hW2];exact(hA s vs a1).turn _ _ _ _ hAx (by omega) hl rfl
  rw[hW2];refine wpIn_mono (hbody m _ s vs a1 W2 (by omega) hi2 hA2) ?_
  have fin:∀(jump:Option Code) (W3:World),aG3 w.heap.size W2 W3→
    (Instr.endRound (w.heap.size+1) jump).run P W3=.ok (.bool jump.isNone) (W3.putObj (w.heap.size+1) (.loop (rec (if jump.isNone then .ready else .done) jump)))∧
    W3.heap[w.heap.size+1]? = some (.loop { rec .ready none with state:=.busy })∧
    (W3.putObj (w.heap.size+1) (.loop (rec (if jump.isNone then .ready else .done) jump))).heap[w.heap.size+1]? = some (.loop (rec (if jump.isNone then .ready else .done) jump))∧
    (W3.putObj (w.heap.size+1) (.loop (rec (if jump.isNone then .ready else .done) jump))).heap[w.heap.size]? = some (.deferred (some []))∧
    aJ6 w.heap.size (w.heap.size+1) V (W3.putObj (w.heap.size+1) (.loop (rec (if jump.isNone then .ready else .done) jump))):=fun jump W3 hk3=>by
   have hl3:=(hk3.same (w.heap.size+1) (by omega) (by omega)).trans hl2;have he:=run_endRound (P:=P) jump hl3;rw[hrec]at he ⊢;refine⟨he,by rw[hrec]at hl3;exact hl3,World.putObj_heap_same (Array.getElem?_eq_some_iff.1 hl3).1,(World.putObj_heap_other (by omega)).trans ((hk3.same w.heap.size yL (by omega)).trans hk2),?_,fun k hB hkl hks=>?_⟩
   ·have h1:=hk3.size;have h2:=hb.size;simp[World.putObj];omega
   have h2:=hb.size;rw[World.putObj_heap_other (by omega),hk3.same k hB (by omega),ho2 k hkl];exact hb.block k hks
  rintro e a3 W3 hp
  cases e with
  | normal=>
   obtain⟨hk3,s',hn,hi3⟩:=hp;obtain⟨hr,hl3,hl4,hk4,hof⟩:=fin none W3 hk3;exact⟨_,_,hr,hof,.inl ⟨rfl,s',hn,(hI s').turn _ _ _ _ hi3 (by omega) hl3 rfl,hl4,hk4⟩⟩
  | ret=>
   obtain⟨hk3,hi3⟩:=hp;obtain⟨hr,hl3,hl4,hk4,hof⟩:=fin (some .ret) W3 hk3;exact⟨_,_,hr,hof,.inr ⟨rfl,.ret,(hIx _).turn _ _ _ _ hi3 (by omega) hl3 rfl,hl4,hk4⟩⟩
  | exit id=>
   obtain⟨hk3,hi3⟩:=hp;obtain⟨hr,hl3,hl4,hk4,hof⟩:=fin (some (.exit id)) W3 hk3;exact⟨_,_,hr,hof,.inr ⟨rfl,.exit id,(hIx _).turn _ _ _ _ hi3 (by omega) hl3 rfl,hl4,hk4⟩⟩
  | goto t=>
   obtain⟨hk3,hi3⟩:=hp;obtain⟨hr,hl3,hl4,hk4,hof⟩:=fin (some (.goto t)) W3 hk3;exact⟨_,_,hr,hof,.inr ⟨rfl,.goto t,(hIx _).turn _ _ _ _ hi3 (by omega) hl3 rfl,hl4,hk4⟩⟩
  | panic ch=>exact hp.elim
  | outgrown=>exact hp.elim
 rintro e W2 ⟨⟨v,rfl⟩,(⟨s,hS,hi,hl,hk⟩|⟨c,hi,hl,hk⟩)⟩
 ·have he:=run_endLoop (P:=P) hl (by rw[hrec];simp);rw[hrec]at he;exact⟨none,_,he,hdone _ s _ yL hS ((hI s).turn _ _ _ _ hi (by omega) hl rfl) ((World.putObj_heap_other (by omega)).trans hk)⟩
 have he:=run_endLoop (P:=P) hl (by rw[hrec];simp);rw[hrec]at he;exact⟨some c,_,he,wpIn_wide.2 (hstop _ c _ yL ((hIx c).turn _ _ _ _ hi (by omega) hl rfl) ((World.putObj_heap_other (by omega)).trans hk))⟩
end Go.Proofs.YtaeocliklpcgmaaGreat
namespace Go.Proofs.YtaeocliklpcgmaaGreat
open Go.RowKit Go.Shelf
def sortO_ren:Go.Shelf.Ren:=⟨fun|6=>78|15=>120|14=>132|28=>169|29=>170|20=>175|21=>176|22=>177|23=>178|24=>179|25=>180|26=>181|27=>182|46=>203|47=>199|48=>200|49=>204|50=>205|57=>220|n=>n,fun|22=>61|24=>129|25=>143|3=>3|39=>133|0=>0|53=>233|55=>39|4=>4|46=>226|45=>225|50=>230|5=>5|9=>9|66=>257|70=>260|76=>288|77=>289|n=>n,fun|n=>n⟩
theorem sortO:Go.Proofs.SlLaysF0.n6 Tryz.prog sortO_ren:={
 mixed:=by kernel_rfl
 f6:=⟨Tryz.f78.name,by decide,Tryz.func78.trans (congrArg some (by kernel_rfl))⟩
 f14:=⟨Tryz.f132.name,by decide,Tryz.func132.trans (congrArg some (by kernel_rfl))⟩
 f15:=Tryz.func120.trans (congrArg some (by kernel_rfl))
 f20:=⟨Tryz.f175.name,by decide,Tryz.func175.trans (congrArg some (by kernel_rfl))⟩
 f21:=⟨Tryz.f176.name,by decide,Tryz.func176.trans (congrArg some (by kernel_rfl))⟩
 f22:=⟨Tryz.f177.name,by decide,Tryz.func177.trans (congrArg some (by kernel_rfl))⟩
 f23:=⟨Tryz.f178.name,by decide,Tryz.func178.trans (congrArg some (by kernel_rfl))⟩
 f24:=⟨Tryz.f179.name,by decide,Tryz.func179.trans (congrArg some (by kernel_rfl))⟩
 f25:=⟨Tryz.f180.name,by decide,Tryz.func180.trans (congrArg some (by kernel_rfl))⟩
 f26:=⟨Tryz.f181.name,by decide,Tryz.func181.trans (congrArg some (by kernel_rfl))⟩
 f27:=⟨Tryz.f182.name,by decide,Tryz.func182.trans (congrArg some (by kernel_rfl))⟩
 f28:=Tryz.func169.trans (congrArg some (by kernel_rfl))
 f29:=Tryz.func170.trans (congrArg some (by kernel_rfl))
 f46:=⟨Tryz.f203.name,by decide,Tryz.func203.trans (congrArg some (by kernel_rfl))⟩
 f47:=Tryz.func199.trans (congrArg some (by kernel_rfl))
 f48:=Tryz.func200.trans (congrArg some (by kernel_rfl))
 f49:=⟨Tryz.f204.name,by decide,Tryz.func204.trans (congrArg some (by kernel_rfl))⟩
 f50:=⟨Tryz.f205.name,by decide,Tryz.func205.trans (congrArg some (by kernel_rfl))⟩
 f57:=⟨Tryz.f220.name,by decide,Tryz.func220.trans (congrArg some (by kernel_rfl))⟩
 t0:=Tryz.underlying0
 a0:=Tryz.isAgg0
 z0:=Tryz.sizeOf0
 v0:=Tryz.zeroValue0
 t3:=Tryz.underlying3
 a3:=Tryz.isAgg3
 z3:=Tryz.sizeOf3
 v3:=Tryz.zeroValue3
 t4:=Tryz.underlying4
 a4:=Tryz.isAgg4
 z4:=Tryz.sizeOf4
 v4:=Tryz.zeroValue4
 t5:=Tryz.underlying5
 a5:=Tryz.isAgg5
 z5:=Tryz.sizeOf5
 v5:=Tryz.zeroValue5
 t9:=Tryz.underlying9
 a9:=Tryz.isAgg9
 z9:=Tryz.sizeOf9
 v9:=Tryz.zeroValue9
 t22:=Tryz.underlying61
 a22:=Tryz.isAgg61
 z22:=Tryz.sizeOf61
 v22:=Tryz.zeroValue61
 t25:=Tryz.underlying143
 a25:=Tryz.isAgg143
 z25:=Tryz.sizeOf143
 v25:=Tryz.zeroValue143
 t39:=Tryz.underlying133
 a39:=Tryz.isAgg133
 z39:=Tryz.sizeOf133
 v39:=Tryz.zeroValue133
 t45:=Tryz.underlying225
 a45:=Tryz.isAgg225
 z45:=Tryz.sizeOf225
 v45:=Tryz.zeroValue225
 t46:=Tryz.underlying226
 a46:=Tryz.isAgg226
 z46:=Tryz.sizeOf226
 v46:=Tryz.zeroValue226
 t50:=Tryz.underlying230
 a50:=Tryz.isAgg230
 z50:=Tryz.sizeOf230
 v50:=Tryz.zeroValue230
 t53:=Tryz.underlying233
 a53:=Tryz.isAgg233
 z53:=Tryz.sizeOf233
 v53:=Tryz.zeroValue233
 t55:=Tryz.underlying39
 a55:=Tryz.isAgg39
 z55:=Tryz.sizeOf39
 v55:=Tryz.zeroValue39
 t66:=Tryz.underlying257
 a66:=Tryz.isAgg257
 z66:=Tryz.sizeOf257
 v66:=Tryz.zeroValue257
 t70:=Tryz.underlying260
 a70:=Tryz.isAgg260
 z70:=Tryz.sizeOf260
 v70:=Tryz.zeroValue260
 t76:=Tryz.underlying288
 a76:=Tryz.isAgg288
 z76:=Tryz.sizeOf288
 v76:=Tryz.zeroValue288
 t77:=Tryz.underlying289
 a77:=Tryz.isAgg289
 z77:=Tryz.sizeOf289
 v77:=Tryz.zeroValue289 }
end Go.Proofs.YtaeocliklpcgmaaGreat
