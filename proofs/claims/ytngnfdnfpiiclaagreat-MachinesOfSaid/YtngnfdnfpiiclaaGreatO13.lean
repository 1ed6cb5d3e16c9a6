/- Pieces of one proof. -/
import Derived.Test.YtngnfdnfpiiclaaGreatO11
set_option linter.all false
set_option maxHeartbeats 64000000
set_option maxRecDepth 100000
namespace Go.Proofs.YtngnfdnfpiiclaaGreat
open Go.RowKit
theorem RReads.atP{w:World}{v:Value}{zs:List Int}(h:aAs w v 1 zs.length (zs.map (.int .u8))):
  ∃(ao:Option Addr) (cap:Nat),v=.slice ao zs.length cap∧zs.length≤100000000∧∀k,k<zs.length→∃b off,ao=some ⟨b,off,none⟩∧b<w.heap.size∧∀j (hj:j<zs.length),w.cell? ⟨b,off+j,none⟩=some (.int .u8 zs[j]):=by
 obtain⟨ao,cap,rfl,h1,h2,h3⟩:=h;refine⟨ao,cap,rfl,h1,fun k hk=>?_⟩;obtain⟨b,off,rfl,hb,hc⟩:=h3 (by omega);exact⟨b,off,rfl,hb,fun j hj=>by rw[hc j (by omega)];simp[hj]⟩
theorem RReads.atL{w:World}{v:Value}{ls:List Ln}(h:aAs w v 5 ls.length (aAd ls)):
  ∃(ao:Option Addr) (cap:Nat),v=.slice ao ls.length cap∧ls.length≤100000000∧∀k,k<ls.length→∃b off,ao=some ⟨b,off,none⟩∧b<w.heap.size∧∀j (hj:j<ls.length) i,i<5→w.cell? ⟨b,off+j*5+i,none⟩=ls[j].vals[i]? := by
 obtain⟨ao,cap,rfl,h1,h2,h3⟩:=h;refine⟨ao,cap,rfl,h1,fun k hk=>?_⟩;obtain⟨b,off,rfl,hb,hc⟩:=h3 (by omega);exact⟨b,off,rfl,hb,fun j hj i hi=>by rw[Nat.add_assoc,hc (j*5+i) (by omega),aAp ls j i hi hj]⟩
theorem trust_step{ps:List Int}{l:List Ln}{x:Ln}(hs:l.Pairwise fun x y=>x.rank<y.rank)(hlen:l.length<64)(hr:∀y∈l,y.rank<x.rank)(hli:1≤x.li)(hdb:0≤x.db)(hdl:x.db≤x.li):
  (aFk ps x∧aAi ps l x.cr x.de x.cu x.li=0∧setL (aAj ps l x.cr x.de x.cu x.li) x=l++[x])∨(¬aFk ps x∧aAi ps l x.cr x.de x.cu x.li≠0):=by
 have hn:aAl l x.cr x.de x.cu=none:=by
  refine(aJ8 fun y hy=>?_).2;have h1:=hr y hy
  by_cases h:y.is x.cr x.de x.cu=true
  ·exfalso;unfold Ln.is at h;simp only[Bool.and_eq_true,beq_iff_eq]at h;unfold Ln.rank at h1;omega
  simpa using h
 have hat:lnAt l x.cr x.de x.cu=noLn:=by unfold lnAt;rw[hn];rfl
 by_cases h1:x.cr<1∨16<x.cr∨x.de<1∨16<x.de∨x.cu<1∨8<x.cu∨x.cr=x.de∨x.li<0∨1099511627776<x.li
 ·right
  refine⟨fun k=>?_,by rw[(aJv ps l _ _ _ _ h1).1];decide⟩;have hg:=k.good;have a1:=hg.cr;have a2:=hg.de;have a3:=hg.cu;have a4:=hg.ne;have a5:=hg.li;omega
 by_cases h2:x.cr∉ps∨x.de∉ps
 ·right
  refine⟨fun k=>?_,?_⟩
  ·rcases h2 with h2|h2
   ·exact h2 k.2.1
   exact h2 k.2.2.1
  unfold aAi;rw[if_neg h1,if_pos h2];decide
 left
 have e0:aAi ps l x.cr x.de x.cu x.li=0:=by
  unfold aAi;rw[if_neg h1,if_neg h2,hat,if_neg (by simp[noLn];omega),if_neg (by omega)]
 refine⟨⟨?_,?_,?_,hli,by omega,hdb,hdl⟩,e0,?_⟩
 ·unfold mayE;rw[decide_eq_true_eq];omega
 ·exact Decidable.byContradiction fun k=>h2 (.inl k)
 ·exact Decidable.byContradiction fun k=>h2 (.inr k)
 unfold aAj;rw[if_pos e0,set_twice hs (by unfold Ln.rank;rfl)];exact aKr hs hr (by omega)
theorem aN9{ls:List Ln}{k:Nat}(hk:k<ls.length)(h:(ls.take k).Pairwise fun x y=>x.rank<y.rank)(hs:∀hk0:0<k,(ls[k - 1]'(by omega)).rank<ls[k].rank):∀y∈ls.take k,y.rank<ls[k].rank:=by
 have hp:=aGm (R:=fun x y:Ln=>x.rank<y.rank) (fun a b c h1 h2=>Int.lt_trans h1 h2) hk h hs;rw[List.take_succ_eq_append_getElem hk,List.pairwise_append]at hp;exact fun y hy=>hp.2.2 y hy _ (by simp)
theorem open_step{zs:List Int}{k:Nat}(hk:k<zs.length)(h:okP (zs.take k))(hm:mayP zs[k]=true)(hs:∀hk0:0<k,zs[k - 1]'(by omega)<zs[k]):aCa (zs.take k) zs[k]=0∧aCb (zs.take k) zs[k]=zs.take (k+1):=by
 have hp:=aGm (R:=fun x y:Int=>x<y) (fun a b c h1 h2=>Int.lt_trans h1 h2) hk h.1 hs;have hp2:=hp;rw[List.take_succ_eq_append_getElem hk,List.pairwise_append]at hp2;have:=open_last h.1 h.2 (by unfold mayP at hm;simpa using hm) (fun q hq=>hp2.2.2 q hq _ (by simp));rw[List.take_succ_eq_append_getElem hk];exact this
theorem open_no{ps:List Int}{p:Int}(hm:mayP p=false):aCa ps p=1:=by
 unfold aCa;rw[if_pos];unfold mayP at hm;simp at hm;omega
theorem aJ6{zs:List Int}{ls:List Ln}{k:Nat}(hkl:k<ls.length)(h64:ls.length≤64)(hO:okL zs (ls.take k))(hF:∀x∈ls,x.Fits)(hs:∀hk0:0<k,(ls[k - 1]'(by omega)).rank<ls[k].rank):
  (Hid (¬okL zs ls)∧ls[k].li<1)∨(Hid (¬okL zs ls)∧¬ls[k].li<1∧ls[k].db<0)∨(Hid (¬okL zs ls)∧¬ls[k].li<1∧¬ls[k].db<0∧ls[k].li<ls[k].db)∨
  (Hid (¬okL zs ls)∧¬ls[k].li<1∧¬ls[k].db<0∧¬ls[k].li<ls[k].db∧∃er:Int,er≠0∧aAi zs (ls.take k) ls[k].cr ls[k].de ls[k].cu ls[k].li=er)∨
  (¬ls[k].li<1∧¬ls[k].db<0∧¬ls[k].li<ls[k].db∧aAi zs (ls.take k) ls[k].cr ls[k].de ls[k].cu ls[k].li=0∧
   Hid (setL (aAj zs (ls.take k) ls[k].cr ls[k].de ls[k].cu ls[k].li) ls[k]=ls.take (k+1))∧Hid (okL zs (ls.take (k+1)))∧
   Hid ((∀y∈aAj zs (ls.take k) ls[k].cr ls[k].de ls[k].cu ls[k].li,y.Fits)∧(aAj zs (ls.take k) ls[k].cr ls[k].de ls[k].cu ls[k].li).length≤1000)):=by
 by_cases q2:ls[k].li<1
 ·exact .inl ⟨yH (okL.bad hkl (.inl fun k=>by have:=k.2.2.2.1;omega)),q2⟩
 by_cases q3:ls[k].db<0
 ·exact .inr (.inl ⟨yH (okL.bad hkl (.inl fun k=>by have:=k.2.2.2.2.2.1;omega)),q2,q3⟩)
 by_cases q4:ls[k].li<ls[k].db
 ·exact .inr (.inr (.inl ⟨yH (okL.bad hkl (.inl fun k=>by have:=k.2.2.2.2.2.2;omega)),q2,q3,q4⟩))
 have hr:=aN9 hkl hO.1 hs;have hlen:(ls.take k).length<64:=by rw[List.length_take];omega
 rcases trust_step (ps:=zs) hO.1 hlen hr (by omega) (by omega) (by omega)with⟨h1,h2,h3⟩|⟨h1,h2⟩
 ·refine .inr (.inr (.inr (.inr ⟨q2,q3,q4,h2,yH ?_,yH (okL.next hkl hO h1 hs),yH ⟨fun y hy=>?_,?_⟩⟩)))
  ·rw[h3,List.take_succ_eq_append_getElem hkl]
  ·unfold aAj at hy;rw[if_pos h2]at hy;rcases setL_mem hy with hy|⟨rfl,_⟩
   ·exact hF y (List.mem_of_mem_take hy)
   have hx:=hF ls[k] (List.getElem_mem _);refine⟨hx.cr,hx.de,hx.cu,hx.li,?_⟩;exact lnAt_of (P:=fun z=>In64 z.db) (fun z hz=>(hF z (List.mem_of_mem_take hz)).db) (by unfold In64;decide) _ _ _
  unfold aAj;rw[if_pos h2];have:=setL_len (ls.take k) ⟨ls[k].cr,ls[k].de,ls[k].cu,ls[k].li,(lnAt (ls.take k) ls[k].cr ls[k].de ls[k].cu).db⟩;omega
 exact .inr (.inr (.inr (.inl ⟨yH (okL.bad hkl (.inl h1)),q2,q3,q4,_,h2,rfl⟩)))
theorem lines_step{zs:List Int}{ls:List Ln}{k:Nat}(hkl:k<ls.length)(h64:ls.length≤64)(hO:okL zs (ls.take k))(hF:0<k→∀x∈ls,x.Fits)(hk0:0<k):
  (ls[k].rank≤(ls[k - 1]'(by omega)).rank∧Hid (¬okL zs ls))∨
  (¬ls[k].rank≤(ls[k - 1]'(by omega)).rank∧Hid (¬okL zs ls)∧ls[k].li<1)∨(¬ls[k].rank≤(ls[k - 1]'(by omega)).rank∧Hid (¬okL zs ls)∧¬ls[k].li<1∧ls[k].db<0)∨(¬ls[k].rank≤(ls[k - 1]'(by omega)).rank∧Hid (¬okL zs ls)∧¬ls[k].li<1∧¬ls[k].db<0∧ls[k].li<ls[k].db)∨
  (¬ls[k].rank≤(ls[k - 1]'(by omega)).rank∧Hid (¬okL zs ls)∧¬ls[k].li<1∧¬ls[k].db<0∧¬ls[k].li<ls[k].db∧∃er:Int,er≠0∧aAi zs (ls.take k) ls[k].cr ls[k].de ls[k].cu ls[k].li=er)∨
  (¬ls[k].rank≤(ls[k - 1]'(by omega)).rank∧¬ls[k].li<1∧¬ls[k].db<0∧¬ls[k].li<ls[k].db∧aAi zs (ls.take k) ls[k].cr ls[k].de ls[k].cu ls[k].li=0∧
   Hid (setL (aAj zs (ls.take k) ls[k].cr ls[k].de ls[k].cu ls[k].li) ls[k]=ls.take (k+1))∧Hid (okL zs (ls.take (k+1)))∧
   Hid ((∀y∈aAj zs (ls.take k) ls[k].cr ls[k].de ls[k].cu ls[k].li,y.Fits)∧(aAj zs (ls.take k) ls[k].cr ls[k].de ls[k].cu ls[k].li).length≤1000)):=by
 by_cases hr:ls[k].rank≤(ls[k - 1]'(by omega)).rank
 ·exact .inl ⟨hr,yH (okL.bad hkl (.inr ⟨hk0,hr⟩))⟩
 rcases aJ6 hkl h64 hO (hF hk0) (fun _=>by omega)with h|h|h|h|h
 ·exact .inr (.inl ⟨hr,h⟩)
 ·exact .inr (.inr (.inl ⟨hr,h⟩))
 ·exact .inr (.inr (.inr (.inl ⟨hr,h⟩)))
 ·exact .inr (.inr (.inr (.inr (.inl ⟨hr,h⟩))))
 exact .inr (.inr (.inr (.inr (.inr ⟨hr,h⟩))))
def OpenT(W:World)(base G:Nat)(ps:List Int)(vl:Value)(w:World):Prop:=(∃vp,RefL w base G ps [] vp vl)∧Keep (·=G) W w
def TrustT(W:World)(base G:Nat)(ps:List Int)(ls:List Ln)(vp:Value)(w:World):Prop:=(∃vl,RefL w base G ps ls vp vl)∧Keep (·=G) W w
def ROfPost(w:World)(zs:List Int)(ls:List Ln)(e:Ending)(w':World):Prop:=
 Below w.heap.size w w'∧((okP zs∧ls.length≤64∧okL zs ls∧∃g vp vl,e=.returned (.tuple #[.pointer (some ⟨g,0,none⟩),.int .i64 0])∧RefL w' w.heap.size g zs ls vp vl)∨
  (e=.returned (.tuple #[.pointer none,.int .i64 9])∧okP zs∧64<ls.length)∨
  (e=.returned (.tuple #[.pointer none,.int .i64 1])∧(¬okP zs∨(okP zs∧ls.length≤64∧¬okL zs ls))))
def ROfAt1(w:World)(G:Nat)(zs:List Int)(i:Value)(wr:World):Prop:=
 ∃(k:Nat) (vp vl:Value),k≤zs.length∧i=.int .i64 k∧okP (zs.take k)∧RefL wr w.heap.size G (zs.take k) [] vp vl∧Below w.heap.size w wr
def ROfAt2(w:World)(G:Nat)(zs:List Int)(ls:List Ln)(i:Value)(wr:World):Prop:=
 ∃(k:Nat) (vp vl:Value),k≤ls.length∧i=.int .i64 k∧okL zs (ls.take k)∧RefL wr w.heap.size G zs (ls.take k) vp vl∧Below w.heap.size w wr
theorem rof_pt_bad{W:World}{G bp op n pcap:Nat}{i p q:Int}(HBp:Hid (bp<W.heap.size))(HP:Hid (W.cell? ⟨bp,op+i.toNat,none⟩=some (.int .u8 p)))(i4:0≤i)(i1:i<(n:Int))(hn:n≤100000000)(s0:decide (0<i)=true)(HQ:Hid (W.cell? ⟨bp,op+(i.toNat - 1),none⟩=some (.int .u8 q)))(i0:0<i)(s1:decide (p≤q)=true){Q:Exit→Act→World→Prop}{c1 c2 c3 c4 c5 c8 c9 c10 c11 c12 c13 c14 c15 c16 c17 c18 c19 c20 c21 c22 c23 c24 c25 c26 c27 c28 c29 c30 c31 c32 c33 c34 c35 c36 c37 c38 c39 c40 c41 c42 c43 c44 c45 c46 c47 c48 c49 c50 c51 c52 c53 c54 c55 c56 c57 c58 c59 c60 c61 c62 c63 c64 c65 c66 c67 c68 c69 c70 c71 c72 c73 c74 c75 c76 c77 c78 c79 c80 c81 c82 c83 c84 c85 c86 c87 c88 c89 c90 c91 c92 c93 c94 c95 c96 c97 c98 c99 c100:Value}
  (hq:∀w6,(fun w'=>Below W.heap.size W w') w6→Q .normal ⟨#[(.slice (some ⟨bp,op,none⟩) n pcap),c1,c2,c3,c4,c5,(.pointer (some ⟨G,0,none⟩)),(.int .i64 i),c8,c9,c10,c11,c12,c13,c14,c15,c16,c17,(.int .i64 i),(.bool true),(.bool true),(.slice (some ⟨bp,op,none⟩) n pcap),(.int .i64 i),(.pointer (some ⟨bp,op+i.toNat,none⟩)),(.int .u8 p),(.slice (some ⟨bp,op,none⟩) n pcap),(.int .i64 i),(.int .i64 (i - 1)),(.pointer (some ⟨bp,op+(i.toNat - 1),none⟩)),(.int .u8 q),(.bool true),(.bool true),(.bool true),undef,undef,undef,undef,undef,undef,undef,(.bool true),c41,c42,c43,c44,c45,c46,c47,c48,c49,c50,c51,c52,c53,c54,c55,c56,c57,c58,c59,c60,c61,c62,c63,c64,c65,c66,c67,c68,c69,c70,c71,c72,c73,c74,c75,c76,c77,c78,c79,c80,c81,c82,c83,c84,c85,c86,c87,c88,c89,c90,c91,c92,c93,c94,c95,c96,c97,c98,c99,c100],[]⟩ w6):
  Code.wp Tryz.prog (((Tryz.f68.body).bind (aAr 5)).getD .skip) Q ⟨#[(.slice (some ⟨bp,op,none⟩) n pcap),c1,c2,c3,c4,c5,(.pointer (some ⟨G,0,none⟩)),(.int .i64 i),c8,c9,c10,c11,c12,c13,c14,c15,c16,c17,c18,c19,c20,c21,c22,c23,c24,c25,c26,c27,c28,c29,c30,c31,c32,c33,c34,c35,c36,c37,c38,c39,c40,c41,c42,c43,c44,c45,c46,c47,c48,c49,c50,c51,c52,c53,c54,c55,c56,c57,c58,c59,c60,c61,c62,c63,c64,c65,c66,c67,c68,c69,c70,c71,c72,c73,c74,c75,c76,c77,c78,c79,c80,c81,c82,c83,c84,c85,c86,c87,c88,c89,c90,c91,c92,c93,c94,c95,c96,c97,c98,c99,c100],[]⟩ W:=by
 conv=>arg 2;whnf
 have HK:=yH hq;clear hq
 refine aAg (by kernel_rfl) [(.int .i64 i),(.bool true),(.bool true),(.slice (some ⟨bp,op,none⟩) n pcap),(.int .i64 i),(.pointer (some ⟨bp,op+i.toNat,none⟩)),(.int .u8 p),(.slice (some ⟨bp,op,none⟩) n pcap),(.int .i64 i),(.int .i64 (i - 1)),(.pointer (some ⟨bp,op+(i.toNat - 1),none⟩)),(.int .u8 q),(.bool true),(.bool true),(.bool true),undef,undef,undef,undef,undef,undef,undef,(.bool true)]
  (fun w'=>Below W.heap.size W w') (by kernel_rfl) yZ.drew ?_
 intro af haf;simp only[yG,List.append_eq,List.cons_append,List.nil_append,puts,Act.put,yA,yC,yF,yD,yE]at haf;subst haf;refine⟨?_,?_⟩
 ·simp only[yG,List.append_eq,List.cons_append,List.nil_append,aAv];refine⟨?z1,?z2,?z3,?z7,?z8,?z9,?_,?z10,?z11,?z12,?z13,?_,?z14,?z4,?z5,?z15,?z16,?z17,?z18,?z19,?z20,?z21,?z6,trivial⟩
  case z1|z2|z3|z4|z5|z6=>
   intro w' hS;refine yO rfl ?_;have HS:=yH hS;clear hS;go_wp2_with fail;all_goals first|exact HS|exact⟨rfl,HS⟩|rfl|exact⟨by omega,HS.o⟩
  case z7|z8|z9|z10|z11|z12|z13|z14=>
   intro w' hS;refine OpTo.wanted ?_ ?_
   kernel_rfl
   have HS:=yH hS;clear hS;go_wp2_with fail;all_goals first|exact HS|exact⟨rfl,HS⟩|rfl|exact⟨by omega,HS.o⟩
  case z15|z16|z17|z18|z19|z20|z21=>
   intro w' hS;refine pAC (by kernel_rfl) rfl hS
  ·intro w' hS;refine OpTo.wanted ?_ ?_
   kernel_rfl
   have hlt:=yM HBp.o hS.size;have e0:=(hS.cell (p:=⟨bp,op+i.toNat,none⟩) HBp.o).trans HP.o;have HS:=yH hS;clear hS;go_wp2_with fail;all_goals first|exact HS|exact⟨rfl,HS⟩|rfl|exact⟨by omega,HS.o⟩
  intro w' hS;refine OpTo.wanted ?_ ?_
  kernel_rfl
  have hlt:=yM HBp.o hS.size;have e0:=(hS.cell (p:=⟨bp,op+(i.toNat - 1),none⟩) HBp.o).trans HQ.o;have HS:=yH hS;clear hS;go_wp2_with fail;all_goals first|exact HS|exact⟨rfl,HS⟩|rfl|exact⟨by omega,HS.o⟩
 intro w6 b6;exact HK.o w6 b6
theorem rof_pt_no{W:World}{G bp op n pcap:Nat}{i p q:Int}(HBp:Hid (bp<W.heap.size))(HP:Hid (W.cell? ⟨bp,op+i.toNat,none⟩=some (.int .u8 p)))(i4:0≤i)(i1:i<(n:Int))(hn:n≤100000000)(s0:decide (0<i)=true)(HQ:Hid (W.cell? ⟨bp,op+(i.toNat - 1),none⟩=some (.int .u8 q)))(i0:0<i)(s1:decide (p≤q)=false){T:World→Prop}(CO:Hid (∀w',Below W.heap.size W w'→Calls Tryz.prog 81 #[.pointer (some ⟨G,0,none⟩),.int .u8 p] w' fun e w''=>e=.returned (.int .i64 1)∧T w'')){Q:Exit→Act→World→Prop}{c1 c2 c3 c4 c5 c8 c9 c10 c11 c12 c13 c14 c15 c16 c17 c18 c19 c20 c21 c22 c23 c24 c25 c26 c27 c28 c29 c30 c31 c32 c33 c34 c35 c36 c37 c38 c39 c40 c41 c42 c43 c44 c45 c46 c47 c48 c49 c50 c51 c52 c53 c54 c55 c56 c57 c58 c59 c60 c61 c62 c63 c64 c65 c66 c67 c68 c69 c70 c71 c72 c73 c74 c75 c76 c77 c78 c79 c80 c81 c82 c83 c84 c85 c86 c87 c88 c89 c90 c91 c92 c93 c94 c95 c96 c97 c98 c99 c100:Value}
  (hq:∀w6,T w6→Q .normal ⟨#[(.slice (some ⟨bp,op,none⟩) n pcap),c1,c2,c3,c4,c5,(.pointer (some ⟨G,0,none⟩)),(.int .i64 i),c8,c9,c10,c11,c12,c13,c14,c15,c16,c17,(.int .i64 i),(.bool true),(.bool true),(.slice (some ⟨bp,op,none⟩) n pcap),(.int .i64 i),(.pointer (some ⟨bp,op+i.toNat,none⟩)),(.int .u8 p),(.slice (some ⟨bp,op,none⟩) n pcap),(.int .i64 i),(.int .i64 (i - 1)),(.pointer (some ⟨bp,op+(i.toNat - 1),none⟩)),(.int .u8 q),(.bool false),(.bool false),(.bool false),(.pointer (some ⟨G,0,none⟩)),(.slice (some ⟨bp,op,none⟩) n pcap),(.int .i64 i),(.pointer (some ⟨bp,op+i.toNat,none⟩)),(.int .u8 p),(.int .i64 1),(.bool true),(.bool true),c41,c42,c43,c44,c45,c46,c47,c48,c49,c50,c51,c52,c53,c54,c55,c56,c57,c58,c59,c60,c61,c62,c63,c64,c65,c66,c67,c68,c69,c70,c71,c72,c73,c74,c75,c76,c77,c78,c79,c80,c81,c82,c83,c84,c85,c86,c87,c88,c89,c90,c91,c92,c93,c94,c95,c96,c97,c98,c99,c100],[]⟩ w6):
  Code.wp Tryz.prog (((Tryz.f68.body).bind (aAr 5)).getD .skip) Q ⟨#[(.slice (some ⟨bp,op,none⟩) n pcap),c1,c2,c3,c4,c5,(.pointer (some ⟨G,0,none⟩)),(.int .i64 i),c8,c9,c10,c11,c12,c13,c14,c15,c16,c17,c18,c19,c20,c21,c22,c23,c24,c25,c26,c27,c28,c29,c30,c31,c32,c33,c34,c35,c36,c37,c38,c39,c40,c41,c42,c43,c44,c45,c46,c47,c48,c49,c50,c51,c52,c53,c54,c55,c56,c57,c58,c59,c60,c61,c62,c63,c64,c65,c66,c67,c68,c69,c70,c71,c72,c73,c74,c75,c76,c77,c78,c79,c80,c81,c82,c83,c84,c85,c86,c87,c88,c89,c90,c91,c92,c93,c94,c95,c96,c97,c98,c99,c100],[]⟩ W:=by
 conv=>arg 2;whnf
 have HK:=yH hq;clear hq
 refine aA4 (by kernel_rfl) [(.int .i64 i),(.bool true),(.bool true),(.slice (some ⟨bp,op,none⟩) n pcap),(.int .i64 i),(.pointer (some ⟨bp,op+i.toNat,none⟩)),(.int .u8 p),(.slice (some ⟨bp,op,none⟩) n pcap),(.int .i64 i),(.int .i64 (i - 1)),(.pointer (some ⟨bp,op+(i.toNat - 1),none⟩)),(.int .u8 q),(.bool false),(.bool false),(.bool false),(.pointer (some ⟨G,0,none⟩)),(.slice (some ⟨bp,op,none⟩) n pcap),(.int .i64 i),(.pointer (some ⟨bp,op+i.toNat,none⟩)),(.int .u8 p),(.int .i64 1),(.bool true),(.bool true)]
  (Once 20 (fun w'=>Below W.heap.size W w') T) (by kernel_rfl) (Once.start yZ.drew) ?_
 intro af haf;simp only[yG,List.append_eq,List.cons_append,List.nil_append,puts,Act.put,yA,yC,yF,yD,yE]at haf;subst haf;refine⟨?_,?_⟩
 ·simp only[yG,List.append_eq,List.cons_append,List.nil_append,aCd];refine⟨?_,?_,?_,?_,?_,?_,?_,?_,?_,?_,?_,?_,?_,?_,?_,?_,?_,?_,?_,?_,?_,?_,?_,trivial⟩
  ·intro D w' hD hW hC hI;have hN:D 20=false:=aAa hC hD 20 (by kernel_rfl);have hS:=hI.pre hN;refine yO rfl ?_;have HS:=yH (pAE (c:=20) (S:=(fun w'=>Below W.heap.size W w')) (T:=T) (k:=0) (D:=D) (by decide) hN hS);clear hI hS hN hC hW hD;go_wp2_with fail;all_goals first|exact HS|exact⟨rfl,HS⟩|rfl
  ·intro D w' hD hW hC hI;have hN:D 20=false:=aAa hC hD 20 (by kernel_rfl);have hS:=hI.pre hN;refine yO rfl ?_;have HS:=yH (pAE (c:=20) (S:=(fun w'=>Below W.heap.size W w')) (T:=T) (k:=1) (D:=D) (by decide) hN hS);clear hI hS hN hC hW hD;go_wp2_with fail;all_goals first|exact HS|exact⟨rfl,HS⟩|rfl
  ·intro D w' hD hW hC hI;have hN:D 20=false:=aAa hC hD 20 (by kernel_rfl);have hS:=hI.pre hN;refine yO rfl ?_;have HS:=yH (pAE (c:=20) (S:=(fun w'=>Below W.heap.size W w')) (T:=T) (k:=2) (D:=D) (by decide) hN hS);clear hI hS hN hC hW hD;go_wp2_with fail;all_goals first|exact HS|exact⟨rfl,HS⟩|rfl
  ·intro D w' hD hW hC hI;have hN:D 20=false:=aAa hC hD 20 (by kernel_rfl);have hS:=hI.pre hN;refine OpTo.wanted ?_ ?_
   kernel_rfl
   have HS:=yH (pAE (c:=20) (S:=(fun w'=>Below W.heap.size W w')) (T:=T) (k:=3) (D:=D) (by decide) hN hS);clear hI hS hN hC hW hD;go_wp2_with fail;all_goals first|exact HS|exact⟨rfl,HS⟩|rfl
  ·intro D w' hD hW hC hI;have hN:D 20=false:=aAa hC hD 20 (by kernel_rfl);have hS:=hI.pre hN;refine OpTo.wanted ?_ ?_
   kernel_rfl
   have HS:=yH (pAE (c:=20) (S:=(fun w'=>Below W.heap.size W w')) (T:=T) (k:=4) (D:=D) (by decide) hN hS);clear hI hS hN hC hW hD;go_wp2_with fail;all_goals first|exact HS|exact⟨rfl,HS⟩|rfl
  ·intro D w' hD hW hC hI;have hN:D 20=false:=aAa hC hD 20 (by kernel_rfl);have hS:=hI.pre hN;refine OpTo.wanted ?_ ?_
   kernel_rfl
   have HS:=yH (pAE (c:=20) (S:=(fun w'=>Below W.heap.size W w')) (T:=T) (k:=5) (D:=D) (by decide) hN hS);clear hI hS hN hC hW hD;go_wp2_with fail;all_goals first|exact HS|exact⟨rfl,HS⟩|rfl
  ·intro D w' hD hW hC hI;have hN:D 20=false:=aAa hC hD 20 (by kernel_rfl);have hS:=hI.pre hN;refine OpTo.wanted ?_ ?_
   kernel_rfl
   have hlt:=yM HBp.o hS.size;have e0:=(hS.cell (p:=⟨bp,op+i.toNat,none⟩) HBp.o).trans HP.o;have HS:=yH (pAE (c:=20) (S:=(fun w'=>Below W.heap.size W w')) (T:=T) (k:=6) (D:=D) (by decide) hN hS);clear hI hS hN hC hW hD;go_wp2_with fail;all_goals first|exact HS|exact⟨rfl,HS⟩|rfl
  ·intro D w' hD hW hC hI;have hN:D 20=false:=aAa hC hD 20 (by kernel_rfl);have hS:=hI.pre hN;refine OpTo.wanted ?_ ?_
   kernel_rfl
   have HS:=yH (pAE (c:=20) (S:=(fun w'=>Below W.heap.size W w')) (T:=T) (k:=7) (D:=D) (by decide) hN hS);clear hI hS hN hC hW hD;go_wp2_with fail;all_goals first|exact HS|exact⟨rfl,HS⟩|rfl
  ·intro D w' hD hW hC hI;have hN:D 20=false:=aAa hC hD 20 (by kernel_rfl);have hS:=hI.pre hN;refine OpTo.wanted ?_ ?_
   kernel_rfl
   have HS:=yH (pAE (c:=20) (S:=(fun w'=>Below W.heap.size W w')) (T:=T) (k:=8) (D:=D) (by decide) hN hS);clear hI hS hN hC hW hD;go_wp2_with fail;all_goals first|exact HS|exact⟨rfl,HS⟩|rfl
  ·intro D w' hD hW hC hI;have hN:D 20=false:=aAa hC hD 20 (by kernel_rfl);have hS:=hI.pre hN;refine OpTo.wanted ?_ ?_
   kernel_rfl
   have HS:=yH (pAE (c:=20) (S:=(fun w'=>Below W.heap.size W w')) (T:=T) (k:=9) (D:=D) (by decide) hN hS);clear hI hS hN hC hW hD;go_wp2_with fail;all_goals first|exact HS|exact⟨rfl,HS⟩|rfl
  ·intro D w' hD hW hC hI;have hN:D 20=false:=aAa hC hD 20 (by kernel_rfl);have hS:=hI.pre hN;refine OpTo.wanted ?_ ?_
   kernel_rfl
   have HS:=yH (pAE (c:=20) (S:=(fun w'=>Below W.heap.size W w')) (T:=T) (k:=10) (D:=D) (by decide) hN hS);clear hI hS hN hC hW hD;go_wp2_with fail;all_goals first|exact HS|exact⟨rfl,HS⟩|rfl
  ·intro D w' hD hW hC hI;have hN:D 20=false:=aAa hC hD 20 (by kernel_rfl);have hS:=hI.pre hN;refine OpTo.wanted ?_ ?_
   kernel_rfl
   have hlt:=yM HBp.o hS.size;have e0:=(hS.cell (p:=⟨bp,op+(i.toNat - 1),none⟩) HBp.o).trans HQ.o;have HS:=yH (pAE (c:=20) (S:=(fun w'=>Below W.heap.size W w')) (T:=T) (k:=11) (D:=D) (by decide) hN hS);clear hI hS hN hC hW hD;go_wp2_with fail;all_goals first|exact HS|exact⟨rfl,HS⟩|rfl
  ·intro D w' hD hW hC hI;have hN:D 20=false:=aAa hC hD 20 (by kernel_rfl);have hS:=hI.pre hN;refine OpTo.wanted ?_ ?_
   kernel_rfl
   have HS:=yH (pAE (c:=20) (S:=(fun w'=>Below W.heap.size W w')) (T:=T) (k:=12) (D:=D) (by decide) hN hS);clear hI hS hN hC hW hD;go_wp2_with fail;all_goals first|exact HS|exact⟨rfl,HS⟩|rfl
  ·intro D w' hD hW hC hI;have hN:D 20=false:=aAa hC hD 20 (by kernel_rfl);have hS:=hI.pre hN;refine yO rfl ?_;have HS:=yH (pAE (c:=20) (S:=(fun w'=>Below W.heap.size W w')) (T:=T) (k:=13) (D:=D) (by decide) hN hS);clear hI hS hN hC hW hD;go_wp2_with fail;all_goals first|exact HS|exact⟨rfl,HS⟩|rfl
  ·intro D w' hD hW hC hI;have hN:D 20=false:=aAa hC hD 20 (by kernel_rfl);have hS:=hI.pre hN;refine yO rfl ?_;have HS:=yH (pAE (c:=20) (S:=(fun w'=>Below W.heap.size W w')) (T:=T) (k:=14) (D:=D) (by decide) hN hS);clear hI hS hN hC hW hD;go_wp2_with fail;all_goals first|exact HS|exact⟨rfl,HS⟩|rfl
  ·intro D w' hD hW hC hI;have hN:D 20=false:=aAa hC hD 20 (by kernel_rfl);have hS:=hI.pre hN;refine OpTo.wanted ?_ ?_
   kernel_rfl
   have HS:=yH (pAE (c:=20) (S:=(fun w'=>Below W.heap.size W w')) (T:=T) (k:=15) (D:=D) (by decide) hN hS);clear hI hS hN hC hW hD;go_wp2_with fail;all_goals first|exact HS|exact⟨rfl,HS⟩|rfl
  ·intro D w' hD hW hC hI;have hN:D 20=false:=aAa hC hD 20 (by kernel_rfl);have hS:=hI.pre hN;refine OpTo.wanted ?_ ?_
   kernel_rfl
   have HS:=yH (pAE (c:=20) (S:=(fun w'=>Below W.heap.size W w')) (T:=T) (k:=16) (D:=D) (by decide) hN hS);clear hI hS hN hC hW hD;go_wp2_with fail;all_goals first|exact HS|exact⟨rfl,HS⟩|rfl
  ·intro D w' hD hW hC hI;have hN:D 20=false:=aAa hC hD 20 (by kernel_rfl);have hS:=hI.pre hN;refine OpTo.wanted ?_ ?_
   kernel_rfl
   have HS:=yH (pAE (c:=20) (S:=(fun w'=>Below W.heap.size W w')) (T:=T) (k:=17) (D:=D) (by decide) hN hS);clear hI hS hN hC hW hD;go_wp2_with fail;all_goals first|exact HS|exact⟨rfl,HS⟩|rfl
  ·intro D w' hD hW hC hI;have hN:D 20=false:=aAa hC hD 20 (by kernel_rfl);have hS:=hI.pre hN;refine OpTo.wanted ?_ ?_
   kernel_rfl
   have HS:=yH (pAE (c:=20) (S:=(fun w'=>Below W.heap.size W w')) (T:=T) (k:=18) (D:=D) (by decide) hN hS);clear hI hS hN hC hW hD;go_wp2_with fail;all_goals first|exact HS|exact⟨rfl,HS⟩|rfl
  ·intro D w' hD hW hC hI;have hN:D 20=false:=aAa hC hD 20 (by kernel_rfl);have hS:=hI.pre hN;refine OpTo.wanted ?_ ?_
   kernel_rfl
   have hlt:=yM HBp.o hS.size;have e0:=(hS.cell (p:=⟨bp,op+i.toNat,none⟩) HBp.o).trans HP.o;have HS:=yH (pAE (c:=20) (S:=(fun w'=>Below W.heap.size W w')) (T:=T) (k:=19) (D:=D) (by decide) hN hS);clear hI hS hN hC hW hD;go_wp2_with fail;all_goals first|exact HS|exact⟨rfl,HS⟩|rfl
  ·intro D w' hD hW hC hI;have hN:D 20=false:=hD;have hS:=hI.pre hN;refine OpTo.wanted ?_ ?_
   kernel_rfl
   have HC:=yH (CO.o w' hS);clear hI hS hN hC hW hD;go_wp2_with fail;refine HC.o.mono ?_;rintro e w'' ⟨rfl,hT⟩;exact⟨rfl,Once.done hT⟩
  ·intro D w' hD hW hC hI;have hP:D 20=true:=aAk hC hW (by kernel_rfl);have hT:=hI.post hP;refine OpTo.wanted ?_ ?_
   kernel_rfl
   have HS:=yH (pAF (c:=20) (S:=(fun w'=>Below W.heap.size W w')) (T:=T) (k:=21) (D:=D) (by decide) hP hT);clear hI hT hP hC hW hD;go_wp2_with fail;all_goals first|exact HS|exact⟨rfl,HS⟩|rfl
  intro D w' hD hW hC hI;have hP:D 20=true:=aAk hC hW (by kernel_rfl);have hT:=hI.post hP;refine yO rfl ?_;have HS:=yH (pAF (c:=20) (S:=(fun w'=>Below W.heap.size W w')) (T:=T) (k:=22) (D:=D) (by decide) hP hT);clear hI hT hP hC hW hD;go_wp2_with fail;all_goals first|exact HS|exact⟨rfl,HS⟩|rfl
 intro D w6 hall hI;exact HK.o w6 (hI.post (hall 20 (by decide)))
theorem rof_pt_ok{W:World}{G bp op n pcap:Nat}{i p q:Int}(HBp:Hid (bp<W.heap.size))(HP:Hid (W.cell? ⟨bp,op+i.toNat,none⟩=some (.int .u8 p)))(i4:0≤i)(i1:i<(n:Int))(hn:n≤100000000)(s0:decide (0<i)=true)(HQ:Hid (W.cell? ⟨bp,op+(i.toNat - 1),none⟩=some (.int .u8 q)))(i0:0<i)(s1:decide (p≤q)=false){T:World→Prop}(CO:Hid (∀w',Below W.heap.size W w'→Calls Tryz.prog 81 #[.pointer (some ⟨G,0,none⟩),.int .u8 p] w' fun e w''=>e=.returned (.int .i64 0)∧T w'')){Q:Exit→Act→World→Prop}{c1 c2 c3 c4 c5 c8 c9 c10 c11 c12 c13 c14 c15 c16 c17 c18 c19 c20 c21 c22 c23 c24 c25 c26 c27 c28 c29 c30 c31 c32 c33 c34 c35 c36 c37 c38 c39 c40 c41 c42 c43 c44 c45 c46 c47 c48 c49 c50 c51 c52 c53 c54 c55 c56 c57 c58 c59 c60 c61 c62 c63 c64 c65 c66 c67 c68 c69 c70 c71 c72 c73 c74 c75 c76 c77 c78 c79 c80 c81 c82 c83 c84 c85 c86 c87 c88 c89 c90 c91 c92 c93 c94 c95 c96 c97 c98 c99 c100:Value}
  (hq:∀w6,T w6→Q .normal ⟨#[(.slice (some ⟨bp,op,none⟩) n pcap),c1,c2,c3,c4,c5,(.pointer (some ⟨G,0,none⟩)),(.int .i64 i),c8,c9,c10,c11,c12,c13,c14,c15,c16,c17,(.int .i64 i),(.bool true),(.bool true),(.slice (some ⟨bp,op,none⟩) n pcap),(.int .i64 i),(.pointer (some ⟨bp,op+i.toNat,none⟩)),(.int .u8 p),(.slice (some ⟨bp,op,none⟩) n pcap),(.int .i64 i),(.int .i64 (i - 1)),(.pointer (some ⟨bp,op+(i.toNat - 1),none⟩)),(.int .u8 q),(.bool false),(.bool false),(.bool false),(.pointer (some ⟨G,0,none⟩)),(.slice (some ⟨bp,op,none⟩) n pcap),(.int .i64 i),(.pointer (some ⟨bp,op+i.toNat,none⟩)),(.int .u8 p),(.int .i64 0),(.bool false),(.bool false),c41,c42,c43,c44,c45,c46,c47,c48,c49,c50,c51,c52,c53,c54,c55,c56,c57,c58,c59,c60,c61,c62,c63,c64,c65,c66,c67,c68,c69,c70,c71,c72,c73,c74,c75,c76,c77,c78,c79,c80,c81,c82,c83,c84,c85,c86,c87,c88,c89,c90,c91,c92,c93,c94,c95,c96,c97,c98,c99,c100],[]⟩ w6):
  Code.wp Tryz.prog (((Tryz.f68.body).bind (aAr 5)).getD .skip) Q ⟨#[(.slice (some ⟨bp,op,none⟩) n pcap),c1,c2,c3,c4,c5,(.pointer (some ⟨G,0,none⟩)),(.int .i64 i),c8,c9,c10,c11,c12,c13,c14,c15,c16,c17,c18,c19,c20,c21,c22,c23,c24,c25,c26,c27,c28,c29,c30,c31,c32,c33,c34,c35,c36,c37,c38,c39,c40,c41,c42,c43,c44,c45,c46,c47,c48,c49,c50,c51,c52,c53,c54,c55,c56,c57,c58,c59,c60,c61,c62,c63,c64,c65,c66,c67,c68,c69,c70,c71,c72,c73,c74,c75,c76,c77,c78,c79,c80,c81,c82,c83,c84,c85,c86,c87,c88,c89,c90,c91,c92,c93,c94,c95,c96,c97,c98,c99,c100],[]⟩ W:=by
 conv=>arg 2;whnf
 have HK:=yH hq;clear hq
 refine aA4 (by kernel_rfl) [(.int .i64 i),(.bool true),(.bool true),(.slice (some ⟨bp,op,none⟩) n pcap),(.int .i64 i),(.pointer (some ⟨bp,op+i.toNat,none⟩)),(.int .u8 p),(.slice (some ⟨bp,op,none⟩) n pcap),(.int .i64 i),(.int .i64 (i - 1)),(.pointer (some ⟨bp,op+(i.toNat - 1),none⟩)),(.int .u8 q),(.bool false),(.bool false),(.bool false),(.pointer (some ⟨G,0,none⟩)),(.slice (some ⟨bp,op,none⟩) n pcap),(.int .i64 i),(.pointer (some ⟨bp,op+i.toNat,none⟩)),(.int .u8 p),(.int .i64 0),(.bool false),(.bool false)]
  (Once 20 (fun w'=>Below W.heap.size W w') T) (by kernel_rfl) (Once.start yZ.drew) ?_
 intro af haf;simp only[yG,List.append_eq,List.cons_append,List.nil_append,puts,Act.put,yA,yC,yF,yD,yE]at haf;subst haf;refine⟨?_,?_⟩
 ·simp only[yG,List.append_eq,List.cons_append,List.nil_append,aCd];refine⟨?_,?_,?_,?_,?_,?_,?_,?_,?_,?_,?_,?_,?_,?_,?_,?_,?_,?_,?_,?_,?_,?_,?_,trivial⟩
  ·intro D w' hD hW hC hI;have hN:D 20=false:=aAa hC hD 20 (by kernel_rfl);have hS:=hI.pre hN;refine yO rfl ?_;have HS:=yH (pAE (c:=20) (S:=(fun w'=>Below W.heap.size W w')) (T:=T) (k:=0) (D:=D) (by decide) hN hS);clear hI hS hN hC hW hD;go_wp2_with fail;all_goals first|exact HS|exact⟨rfl,HS⟩|rfl
  ·intro D w' hD hW hC hI;have hN:D 20=false:=aAa hC hD 20 (by kernel_rfl);have hS:=hI.pre hN;refine yO rfl ?_;have HS:=yH (pAE (c:=20) (S:=(fun w'=>Below W.heap.size W w')) (T:=T) (k:=1) (D:=D) (by decide) hN hS);clear hI hS hN hC hW hD;go_wp2_with fail;all_goals first|exact HS|exact⟨rfl,HS⟩|rfl
  ·intro D w' hD hW hC hI;have hN:D 20=false:=aAa hC hD 20 (by kernel_rfl);have hS:=hI.pre hN;refine yO rfl ?_;have HS:=yH (pAE (c:=20) (S:=(fun w'=>Below W.heap.size W w')) (T:=T) (k:=2) (D:=D) (by decide) hN hS);clear hI hS hN hC hW hD;go_wp2_with fail;all_goals first|exact HS|exact⟨rfl,HS⟩|rfl
  ·intro D w' hD hW hC hI;have hN:D 20=false:=aAa hC hD 20 (by kernel_rfl);have hS:=hI.pre hN;refine OpTo.wanted ?_ ?_
   kernel_rfl
   have HS:=yH (pAE (c:=20) (S:=(fun w'=>Below W.heap.size W w')) (T:=T) (k:=3) (D:=D) (by decide) hN hS);clear hI hS hN hC hW hD;go_wp2_with fail;all_goals first|exact HS|exact⟨rfl,HS⟩|rfl
  ·intro D w' hD hW hC hI;have hN:D 20=false:=aAa hC hD 20 (by kernel_rfl);have hS:=hI.pre hN;refine OpTo.wanted ?_ ?_
   kernel_rfl
   have HS:=yH (pAE (c:=20) (S:=(fun w'=>Below W.heap.size W w')) (T:=T) (k:=4) (D:=D) (by decide) hN hS);clear hI hS hN hC hW hD;go_wp2_with fail;all_goals first|exact HS|exact⟨rfl,HS⟩|rfl
  ·intro D w' hD hW hC hI;have hN:D 20=false:=aAa hC hD 20 (by kernel_rfl);have hS:=hI.pre hN;refine OpTo.wanted ?_ ?_
   kernel_rfl
   have HS:=yH (pAE (c:=20) (S:=(fun w'=>Below W.heap.size W w')) (T:=T) (k:=5) (D:=D) (by decide) hN hS);clear hI hS hN hC hW hD;go_wp2_with fail;all_goals first|exact HS|exact⟨rfl,HS⟩|rfl
  ·intro D w' hD hW hC hI;have hN:D 20=false:=aAa hC hD 20 (by kernel_rfl);have hS:=hI.pre hN;refine OpTo.wanted ?_ ?_
   kernel_rfl
   have hlt:=yM HBp.o hS.size;have e0:=(hS.cell (p:=⟨bp,op+i.toNat,none⟩) HBp.o).trans HP.o;have HS:=yH (pAE (c:=20) (S:=(fun w'=>Below W.heap.size W w')) (T:=T) (k:=6) (D:=D) (by decide) hN hS);clear hI hS hN hC hW hD;go_wp2_with fail;all_goals first|exact HS|exact⟨rfl,HS⟩|rfl
  ·intro D w' hD hW hC hI;have hN:D 20=false:=aAa hC hD 20 (by kernel_rfl);have hS:=hI.pre hN;refine OpTo.wanted ?_ ?_
   kernel_rfl
   have HS:=yH (pAE (c:=20) (S:=(fun w'=>Below W.heap.size W w')) (T:=T) (k:=7) (D:=D) (by decide) hN hS);clear hI hS hN hC hW hD;go_wp2_with fail;all_goals first|exact HS|exact⟨rfl,HS⟩|rfl
  ·intro D w' hD hW hC hI;have hN:D 20=false:=aAa hC hD 20 (by kernel_rfl);have hS:=hI.pre hN;refine OpTo.wanted ?_ ?_
   kernel_rfl
   have HS:=yH (pAE (c:=20) (S:=(fun w'=>Below W.heap.size W w')) (T:=T) (k:=8) (D:=D) (by decide) hN hS);clear hI hS hN hC hW hD;go_wp2_with fail;all_goals first|exact HS|exact⟨rfl,HS⟩|rfl
  ·intro D w' hD hW hC hI;have hN:D 20=false:=aAa hC hD 20 (by kernel_rfl);have hS:=hI.pre hN;refine OpTo.wanted ?_ ?_
   kernel_rfl
   have HS:=yH (pAE (c:=20) (S:=(fun w'=>Below W.heap.size W w')) (T:=T) (k:=9) (D:=D) (by decide) hN hS);clear hI hS hN hC hW hD;go_wp2_with fail;all_goals first|exact HS|exact⟨rfl,HS⟩|rfl
  ·intro D w' hD hW hC hI;have hN:D 20=false:=aAa hC hD 20 (by kernel_rfl);have hS:=hI.pre hN;refine OpTo.wanted ?_ ?_
   kernel_rfl
   have HS:=yH (pAE (c:=20) (S:=(fun w'=>Below W.heap.size W w')) (T:=T) (k:=10) (D:=D) (by decide) hN hS);clear hI hS hN hC hW hD;go_wp2_with fail;all_goals first|exact HS|exact⟨rfl,HS⟩|rfl
  ·intro D w' hD hW hC hI;have hN:D 20=false:=aAa hC hD 20 (by kernel_rfl);have hS:=hI.pre hN;refine OpTo.wanted ?_ ?_
   kernel_rfl
   have hlt:=yM HBp.o hS.size;have e0:=(hS.cell (p:=⟨bp,op+(i.toNat - 1),none⟩) HBp.o).trans HQ.o;have HS:=yH (pAE (c:=20) (S:=(fun w'=>Below W.heap.size W w')) (T:=T) (k:=11) (D:=D) (by decide) hN hS);clear hI hS hN hC hW hD;go_wp2_with fail;all_goals first|exact HS|exact⟨rfl,HS⟩|rfl
  ·intro D w' hD hW hC hI;have hN:D 20=false:=aAa hC hD 20 (by kernel_rfl);have hS:=hI.pre hN;refine OpTo.wanted ?_ ?_
   kernel_rfl
   have HS:=yH (pAE (c:=20) (S:=(fun w'=>Below W.heap.size W w')) (T:=T) (k:=12) (D:=D) (by decide) hN hS);clear hI hS hN hC hW hD;go_wp2_with fail;all_goals first|exact HS|exact⟨rfl,HS⟩|rfl
  ·intro D w' hD hW hC hI;have hN:D 20=false:=aAa hC hD 20 (by kernel_rfl);have hS:=hI.pre hN;refine yO rfl ?_;have HS:=yH (pAE (c:=20) (S:=(fun w'=>Below W.heap.size W w')) (T:=T) (k:=13) (D:=D) (by decide) hN hS);clear hI hS hN hC hW hD;go_wp2_with fail;all_goals first|exact HS|exact⟨rfl,HS⟩|rfl
  ·intro D w' hD hW hC hI;have hN:D 20=false:=aAa hC hD 20 (by kernel_rfl);have hS:=hI.pre hN;refine yO rfl ?_;have HS:=yH (pAE (c:=20) (S:=(fun w'=>Below W.heap.size W w')) (T:=T) (k:=14) (D:=D) (by decide) hN hS);clear hI hS hN hC hW hD;go_wp2_with fail;all_goals first|exact HS|exact⟨rfl,HS⟩|rfl
  ·intro D w' hD hW hC hI;have hN:D 20=false:=aAa hC hD 20 (by kernel_rfl);have hS:=hI.pre hN;refine OpTo.wanted ?_ ?_
   kernel_rfl
   have HS:=yH (pAE (c:=20) (S:=(fun w'=>Below W.heap.size W w')) (T:=T) (k:=15) (D:=D) (by decide) hN hS);clear hI hS hN hC hW hD;go_wp2_with fail;all_goals first|exact HS|exact⟨rfl,HS⟩|rfl
  ·intro D w' hD hW hC hI;have hN:D 20=false:=aAa hC hD 20 (by kernel_rfl);have hS:=hI.pre hN;refine OpTo.wanted ?_ ?_
   kernel_rfl
   have HS:=yH (pAE (c:=20) (S:=(fun w'=>Below W.heap.size W w')) (T:=T) (k:=16) (D:=D) (by decide) hN hS);clear hI hS hN hC hW hD;go_wp2_with fail;all_goals first|exact HS|exact⟨rfl,HS⟩|rfl
  ·intro D w' hD hW hC hI;have hN:D 20=false:=aAa hC hD 20 (by kernel_rfl);have hS:=hI.pre hN;refine OpTo.wanted ?_ ?_
   kernel_rfl
   have HS:=yH (pAE (c:=20) (S:=(fun w'=>Below W.heap.size W w')) (T:=T) (k:=17) (D:=D) (by decide) hN hS);clear hI hS hN hC hW hD;go_wp2_with fail;all_goals first|exact HS|exact⟨rfl,HS⟩|rfl
  ·intro D w' hD hW hC hI;have hN:D 20=false:=aAa hC hD 20 (by kernel_rfl);have hS:=hI.pre hN;refine OpTo.wanted ?_ ?_
   kernel_rfl
   have HS:=yH (pAE (c:=20) (S:=(fun w'=>Below W.heap.size W w')) (T:=T) (k:=18) (D:=D) (by decide) hN hS);clear hI hS hN hC hW hD;go_wp2_with fail;all_goals first|exact HS|exact⟨rfl,HS⟩|rfl
  ·intro D w' hD hW hC hI;have hN:D 20=false:=aAa hC hD 20 (by kernel_rfl);have hS:=hI.pre hN;refine OpTo.wanted ?_ ?_
   kernel_rfl
   have hlt:=yM HBp.o hS.size;have e0:=(hS.cell (p:=⟨bp,op+i.toNat,none⟩) HBp.o).trans HP.o;have HS:=yH (pAE (c:=20) (S:=(fun w'=>Below W.heap.size W w')) (T:=T) (k:=19) (D:=D) (by decide) hN hS);clear hI hS hN hC hW hD;go_wp2_with fail;all_goals first|exact HS|exact⟨rfl,HS⟩|rfl
  ·intro D w' hD hW hC hI;have hN:D 20=false:=hD;have hS:=hI.pre hN;refine OpTo.wanted ?_ ?_
   kernel_rfl
   have HC:=yH (CO.o w' hS);clear hI hS hN hC hW hD;go_wp2_with fail;refine HC.o.mono ?_;rintro e w'' ⟨rfl,hT⟩;exact⟨rfl,Once.done hT⟩
  ·intro D w' hD hW hC hI;have hP:D 20=true:=aAk hC hW (by kernel_rfl);have hT:=hI.post hP;refine OpTo.wanted ?_ ?_
   kernel_rfl
   have HS:=yH (pAF (c:=20) (S:=(fun w'=>Below W.heap.size W w')) (T:=T) (k:=21) (D:=D) (by decide) hP hT);clear hI hT hP hC hW hD;go_wp2_with fail;all_goals first|exact HS|exact⟨rfl,HS⟩|rfl
  intro D w' hD hW hC hI;have hP:D 20=true:=aAk hC hW (by kernel_rfl);have hT:=hI.post hP;refine yO rfl ?_;have HS:=yH (pAF (c:=20) (S:=(fun w'=>Below W.heap.size W w')) (T:=T) (k:=22) (D:=D) (by decide) hP hT);clear hI hT hP hC hW hD;go_wp2_with fail;all_goals first|exact HS|exact⟨rfl,HS⟩|rfl
 intro D w6 hall hI;exact HK.o w6 (hI.post (hall 20 (by decide)))
theorem rof_pf_no{W:World}{G bp op n pcap:Nat}{i p q:Int}(HBp:Hid (bp<W.heap.size))(HP:Hid (W.cell? ⟨bp,op+i.toNat,none⟩=some (.int .u8 p)))(i4:0≤i)(i1:i<(n:Int))(hn:n≤100000000)(s0:decide (0<i)=false){T:World→Prop}(CO:Hid (∀w',Below W.heap.size W w'→Calls Tryz.prog 81 #[.pointer (some ⟨G,0,none⟩),.int .u8 p] w' fun e w''=>e=.returned (.int .i64 1)∧T w'')){Q:Exit→Act→World→Prop}{c1 c2 c3 c4 c5 c8 c9 c10 c11 c12 c13 c14 c15 c16 c17 c18 c19 c20 c21 c22 c23 c24 c25 c26 c27 c28 c29 c30 c31 c32 c33 c34 c35 c36 c37 c38 c39 c40 c41 c42 c43 c44 c45 c46 c47 c48 c49 c50 c51 c52 c53 c54 c55 c56 c57 c58 c59 c60 c61 c62 c63 c64 c65 c66 c67 c68 c69 c70 c71 c72 c73 c74 c75 c76 c77 c78 c79 c80 c81 c82 c83 c84 c85 c86 c87 c88 c89 c90 c91 c92 c93 c94 c95 c96 c97 c98 c99 c100:Value}
  (hq:∀w6,T w6→Q .normal ⟨#[(.slice (some ⟨bp,op,none⟩) n pcap),c1,c2,c3,c4,c5,(.pointer (some ⟨G,0,none⟩)),(.int .i64 i),c8,c9,c10,c11,c12,c13,c14,c15,c16,c17,(.int .i64 i),(.bool false),(.bool false),undef,undef,undef,undef,undef,undef,undef,undef,undef,undef,(.bool false),(.bool false),(.pointer (some ⟨G,0,none⟩)),(.slice (some ⟨bp,op,none⟩) n pcap),(.int .i64 i),(.pointer (some ⟨bp,op+i.toNat,none⟩)),(.int .u8 p),(.int .i64 1),(.bool true),(.bool true),c41,c42,c43,c44,c45,c46,c47,c48,c49,c50,c51,c52,c53,c54,c55,c56,c57,c58,c59,c60,c61,c62,c63,c64,c65,c66,c67,c68,c69,c70,c71,c72,c73,c74,c75,c76,c77,c78,c79,c80,c81,c82,c83,c84,c85,c86,c87,c88,c89,c90,c91,c92,c93,c94,c95,c96,c97,c98,c99,c100],[]⟩ w6):
  Code.wp Tryz.prog (((Tryz.f68.body).bind (aAr 5)).getD .skip) Q ⟨#[(.slice (some ⟨bp,op,none⟩) n pcap),c1,c2,c3,c4,c5,(.pointer (some ⟨G,0,none⟩)),(.int .i64 i),c8,c9,c10,c11,c12,c13,c14,c15,c16,c17,c18,c19,c20,c21,c22,c23,c24,c25,c26,c27,c28,c29,c30,c31,c32,c33,c34,c35,c36,c37,c38,c39,c40,c41,c42,c43,c44,c45,c46,c47,c48,c49,c50,c51,c52,c53,c54,c55,c56,c57,c58,c59,c60,c61,c62,c63,c64,c65,c66,c67,c68,c69,c70,c71,c72,c73,c74,c75,c76,c77,c78,c79,c80,c81,c82,c83,c84,c85,c86,c87,c88,c89,c90,c91,c92,c93,c94,c95,c96,c97,c98,c99,c100],[]⟩ W:=by
 conv=>arg 2;whnf
 have HK:=yH hq;clear hq
 refine aA4 (by kernel_rfl) [(.int .i64 i),(.bool false),(.bool false),undef,undef,undef,undef,undef,undef,undef,undef,undef,undef,(.bool false),(.bool false),(.pointer (some ⟨G,0,none⟩)),(.slice (some ⟨bp,op,none⟩) n pcap),(.int .i64 i),(.pointer (some ⟨bp,op+i.toNat,none⟩)),(.int .u8 p),(.int .i64 1),(.bool true),(.bool true)]
  (Once 20 (fun w'=>Below W.heap.size W w') T) (by kernel_rfl) (Once.start yZ.drew) ?_
 intro af haf;simp only[yG,List.append_eq,List.cons_append,List.nil_append,puts,Act.put,yA,yC,yF,yD,yE]at haf;subst haf;refine⟨?_,?_⟩
 ·simp only[yG,List.append_eq,List.cons_append,List.nil_append,aCd];refine⟨?_,?_,?_,?_,?_,?_,?_,?_,?_,?_,?_,?_,?_,?_,?_,?_,?_,?_,?_,?_,?_,?_,?_,trivial⟩
  ·intro D w' hD hW hC hI;have hN:D 20=false:=aAa hC hD 20 (by kernel_rfl);have hS:=hI.pre hN;refine yO rfl ?_;have HS:=yH (pAE (c:=20) (S:=(fun w'=>Below W.heap.size W w')) (T:=T) (k:=0) (D:=D) (by decide) hN hS);clear hI hS hN hC hW hD;go_wp2_with fail;all_goals first|exact HS|exact⟨rfl,HS⟩|rfl
  ·intro D w' hD hW hC hI;have hN:D 20=false:=aAa hC hD 20 (by kernel_rfl);have hS:=hI.pre hN;refine yO rfl ?_;have HS:=yH (pAE (c:=20) (S:=(fun w'=>Below W.heap.size W w')) (T:=T) (k:=1) (D:=D) (by decide) hN hS);clear hI hS hN hC hW hD;go_wp2_with fail;all_goals first|exact HS|exact⟨rfl,HS⟩|rfl
  ·intro D w' hD hW hC hI;have hN:D 20=false:=aAa hC hD 20 (by kernel_rfl);have hS:=hI.pre hN;refine yO rfl ?_;have HS:=yH (pAE (c:=20) (S:=(fun w'=>Below W.heap.size W w')) (T:=T) (k:=2) (D:=D) (by decide) hN hS);clear hI hS hN hC hW hD;go_wp2_with fail;all_goals first|exact HS|exact⟨rfl,HS⟩|rfl
  ·intro D w' hD hW hC hI;have hN:D 20=false:=aAa hC hD 20 (by kernel_rfl);have hS:=hI.pre hN;exact pAC (by kernel_rfl) rfl (pAE (k:=3) (by decide) hN hS)
  ·intro D w' hD hW hC hI;have hN:D 20=false:=aAa hC hD 20 (by kernel_rfl);have hS:=hI.pre hN;exact pAC (by kernel_rfl) rfl (pAE (k:=4) (by decide) hN hS)
  ·intro D w' hD hW hC hI;have hN:D 20=false:=aAa hC hD 20 (by kernel_rfl);have hS:=hI.pre hN;exact pAC (by kernel_rfl) rfl (pAE (k:=5) (by decide) hN hS)
  ·intro D w' hD hW hC hI;have hN:D 20=false:=aAa hC hD 20 (by kernel_rfl);have hS:=hI.pre hN;exact pAC (by kernel_rfl) rfl (pAE (k:=6) (by decide) hN hS)
  ·intro D w' hD hW hC hI;have hN:D 20=false:=aAa hC hD 20 (by kernel_rfl);have hS:=hI.pre hN;exact pAC (by kernel_rfl) rfl (pAE (k:=7) (by decide) hN hS)
  ·intro D w' hD hW hC hI;have hN:D 20=false:=aAa hC hD 20 (by kernel_rfl);have hS:=hI.pre hN;exact pAC (by kernel_rfl) rfl (pAE (k:=8) (by decide) hN hS)
  ·intro D w' hD hW hC hI;have hN:D 20=false:=aAa hC hD 20 (by kernel_rfl);have hS:=hI.pre hN;exact pAC (by kernel_rfl) rfl (pAE (k:=9) (by decide) hN hS)
  ·intro D w' hD hW hC hI;have hN:D 20=false:=aAa hC hD 20 (by kernel_rfl);have hS:=hI.pre hN;exact pAC (by kernel_rfl) rfl (pAE (k:=10) (by decide) hN hS)
  ·intro D w' hD hW hC hI;have hN:D 20=false:=aAa hC hD 20 (by kernel_rfl);have hS:=hI.pre hN;exact pAC (by kernel_rfl) rfl (pAE (k:=11) (by decide) hN hS)
  ·intro D w' hD hW hC hI;have hN:D 20=false:=aAa hC hD 20 (by kernel_rfl);have hS:=hI.pre hN;exact pAC (by kernel_rfl) rfl (pAE (k:=12) (by decide) hN hS)
  ·intro D w' hD hW hC hI;have hN:D 20=false:=aAa hC hD 20 (by kernel_rfl);have hS:=hI.pre hN;refine yO rfl ?_;have HS:=yH (pAE (c:=20) (S:=(fun w'=>Below W.heap.size W w')) (T:=T) (k:=13) (D:=D) (by decide) hN hS);clear hI hS hN hC hW hD;go_wp2_with fail;all_goals first|exact HS|exact⟨rfl,HS⟩|rfl
  ·intro D w' hD hW hC hI;have hN:D 20=false:=aAa hC hD 20 (by kernel_rfl);have hS:=hI.pre hN;refine yO rfl ?_;have HS:=yH (pAE (c:=20) (S:=(fun w'=>Below W.heap.size W w')) (T:=T) (k:=14) (D:=D) (by decide) hN hS);clear hI hS hN hC hW hD;go_wp2_with fail;all_goals first|exact HS|exact⟨rfl,HS⟩|rfl
  ·intro D w' hD hW hC hI;have hN:D 20=false:=aAa hC hD 20 (by kernel_rfl);have hS:=hI.pre hN;refine OpTo.wanted ?_ ?_
   kernel_rfl
   have HS:=yH (pAE (c:=20) (S:=(fun w'=>Below W.heap.size W w')) (T:=T) (k:=15) (D:=D) (by decide) hN hS);clear hI hS hN hC hW hD;go_wp2_with fail;all_goals first|exact HS|exact⟨rfl,HS⟩|rfl
  ·intro D w' hD hW hC hI;have hN:D 20=false:=aAa hC hD 20 (by kernel_rfl);have hS:=hI.pre hN;refine OpTo.wanted ?_ ?_
   kernel_rfl
   have HS:=yH (pAE (c:=20) (S:=(fun w'=>Below W.heap.size W w')) (T:=T) (k:=16) (D:=D) (by decide) hN hS);clear hI hS hN hC hW hD;go_wp2_with fail;all_goals first|exact HS|exact⟨rfl,HS⟩|rfl
  ·intro D w' hD hW hC hI;have hN:D 20=false:=aAa hC hD 20 (by kernel_rfl);have hS:=hI.pre hN;refine OpTo.wanted ?_ ?_
   kernel_rfl
   have HS:=yH (pAE (c:=20) (S:=(fun w'=>Below W.heap.size W w')) (T:=T) (k:=17) (D:=D) (by decide) hN hS);clear hI hS hN hC hW hD;go_wp2_with fail;all_goals first|exact HS|exact⟨rfl,HS⟩|rfl
  ·intro D w' hD hW hC hI;have hN:D 20=false:=aAa hC hD 20 (by kernel_rfl);have hS:=hI.pre hN;refine OpTo.wanted ?_ ?_
   kernel_rfl
   have HS:=yH (pAE (c:=20) (S:=(fun w'=>Below W.heap.size W w')) (T:=T) (k:=18) (D:=D) (by decide) hN hS);clear hI hS hN hC hW hD;go_wp2_with fail;all_goals first|exact HS|exact⟨rfl,HS⟩|rfl
  ·intro D w' hD hW hC hI;have hN:D 20=false:=aAa hC hD 20 (by kernel_rfl);have hS:=hI.pre hN;refine OpTo.wanted ?_ ?_
   kernel_rfl
   have hlt:=yM HBp.o hS.size;have e0:=(hS.cell (p:=⟨bp,op+i.toNat,none⟩) HBp.o).trans HP.o;have HS:=yH (pAE (c:=20) (S:=(fun w'=>Below W.heap.size W w')) (T:=T) (k:=19) (D:=D) (by decide) hN hS);clear hI hS hN hC hW hD;go_wp2_with fail;all_goals first|exact HS|exact⟨rfl,HS⟩|rfl
  ·intro D w' hD hW hC hI;have hN:D 20=false:=hD;have hS:=hI.pre hN;refine OpTo.wanted ?_ ?_
   kernel_rfl
   have HC:=yH (CO.o w' hS);clear hI hS hN hC hW hD;go_wp2_with fail;refine HC.o.mono ?_;rintro e w'' ⟨rfl,hT⟩;exact⟨rfl,Once.done hT⟩
  ·intro D w' hD hW hC hI;have hP:D 20=true:=aAk hC hW (by kernel_rfl);have hT:=hI.post hP;refine OpTo.wanted ?_ ?_
   kernel_rfl
   have HS:=yH (pAF (c:=20) (S:=(fun w'=>Below W.heap.size W w')) (T:=T) (k:=21) (D:=D) (by decide) hP hT);clear hI hT hP hC hW hD;go_wp2_with fail;all_goals first|exact HS|exact⟨rfl,HS⟩|rfl
  intro D w' hD hW hC hI;have hP:D 20=true:=aAk hC hW (by kernel_rfl);have hT:=hI.post hP;refine yO rfl ?_;have HS:=yH (pAF (c:=20) (S:=(fun w'=>Below W.heap.size W w')) (T:=T) (k:=22) (D:=D) (by decide) hP hT);clear hI hT hP hC hW hD;go_wp2_with fail;all_goals first|exact HS|exact⟨rfl,HS⟩|rfl
 intro D w6 hall hI;exact HK.o w6 (hI.post (hall 20 (by decide)))
theorem rof_pf_ok{W:World}{G bp op n pcap:Nat}{i p q:Int}(HBp:Hid (bp<W.heap.size))(HP:Hid (W.cell? ⟨bp,op+i.toNat,none⟩=some (.int .u8 p)))(i4:0≤i)(i1:i<(n:Int))(hn:n≤100000000)(s0:decide (0<i)=false){T:World→Prop}(CO:Hid (∀w',Below W.heap.size W w'→Calls Tryz.prog 81 #[.pointer (some ⟨G,0,none⟩),.int .u8 p] w' fun e w''=>e=.returned (.int .i64 0)∧T w'')){Q:Exit→Act→World→Prop}{c1 c2 c3 c4 c5 c8 c9 c10 c11 c12 c13 c14 c15 c16 c17 c18 c19 c20 c21 c22 c23 c24 c25 c26 c27 c28 c29 c30 c31 c32 c33 c34 c35 c36 c37 c38 c39 c40 c41 c42 c43 c44 c45 c46 c47 c48 c49 c50 c51 c52 c53 c54 c55 c56 c57 c58 c59 c60 c61 c62 c63 c64 c65 c66 c67 c68 c69 c70 c71 c72 c73 c74 c75 c76 c77 c78 c79 c80 c81 c82 c83 c84 c85 c86 c87 c88 c89 c90 c91 c92 c93 c94 c95 c96 c97 c98 c99 c100:Value}
  (hq:∀w6,T w6→Q .normal ⟨#[(.slice (some ⟨bp,op,none⟩) n pcap),c1,c2,c3,c4,c5,(.pointer (some ⟨G,0,none⟩)),(.int .i64 i),c8,c9,c10,c11,c12,c13,c14,c15,c16,c17,(.int .i64 i),(.bool false),(.bool false),undef,undef,undef,undef,undef,undef,undef,undef,undef,undef,(.bool false),(.bool false),(.pointer (some ⟨G,0,none⟩)),(.slice (some ⟨bp,op,none⟩) n pcap),(.int .i64 i),(.pointer (some ⟨bp,op+i.toNat,none⟩)),(.int .u8 p),(.int .i64 0),(.bool false),(.bool false),c41,c42,c43,c44,c45,c46,c47,c48,c49,c50,c51,c52,c53,c54,c55,c56,c57,c58,c59,c60,c61,c62,c63,c64,c65,c66,c67,c68,c69,c70,c71,c72,c73,c74,c75,c76,c77,c78,c79,c80,c81,c82,c83,c84,c85,c86,c87,c88,c89,c90,c91,c92,c93,c94,c95,c96,c97,c98,c99,c100],[]⟩ w6):
  Code.wp Tryz.prog (((Tryz.f68.body).bind (aAr 5)).getD .skip) Q ⟨#[(.slice (some ⟨bp,op,none⟩) n pcap),c1,c2,c3,c4,c5,(.pointer (some ⟨G,0,none⟩)),(.int .i64 i),c8,c9,c10,c11,c12,c13,c14,c15,c16,c17,c18,c19,c20,c21,c22,c23,c24,c25,c26,c27,c28,c29,c30,c31,c32,c33,c34,c35,c36,c37,c38,c39,c40,c41,c42,c43,c44,c45,c46,c47,c48,c49,c50,c51,c52,c53,c54,c55,c56,c57,c58,c59,c60,c61,c62,c63,c64,c65,c66,c67,c68,c69,c70,c71,c72,c73,c74,c75,c76,c77,c78,c79,c80,c81,c82,c83,c84,c85,c86,c87,c88,c89,c90,c91,c92,c93,c94,c95,c96,c97,c98,c99,c100],[]⟩ W:=by
 conv=>arg 2;whnf
 have HK:=yH hq;clear hq
 refine aA4 (by kernel_rfl) [(.int .i64 i),(.bool false),(.bool false),undef,undef,undef,undef,undef,undef,undef,undef,undef,undef,(.bool false),(.bool false),(.pointer (some ⟨G,0,none⟩)),(.slice (some ⟨bp,op,none⟩) n pcap),(.int .i64 i),(.pointer (some ⟨bp,op+i.toNat,none⟩)),(.int .u8 p),(.int .i64 0),(.bool false),(.bool false)]
  (Once 20 (fun w'=>Below W.heap.size W w') T) (by kernel_rfl) (Once.start yZ.drew) ?_
 intro af haf;simp only[yG,List.append_eq,List.cons_append,List.nil_append,puts,Act.put,yA,yC,yF,yD,yE]at haf;subst haf;refine⟨?_,?_⟩
 ·simp only[yG,List.append_eq,List.cons_append,List.nil_append,aCd];refine⟨?_,?_,?_,?_,?_,?_,?_,?_,?_,?_,?_,?_,?_,?_,?_,?_,?_,?_,?_,?_,?_,?_,?_,trivial⟩
  ·intro D w' hD hW hC hI;have hN:D 20=false:=aAa hC hD 20 (by kernel_rfl);have hS:=hI.pre hN;refine yO rfl ?_;have HS:=yH (pAE (c:=20) (S:=(fun w'=>Below W.heap.size W w')) (T:=T) (k:=0) (D:=D) (by decide) hN hS);clear hI hS hN hC hW hD;go_wp2_with fail;all_goals first|exact HS|exact⟨rfl,HS⟩|rfl
  ·intro D w' hD hW hC hI;have hN:D 20=false:=aAa hC hD 20 (by kernel_rfl);have hS:=hI.pre hN;refine yO rfl ?_;have HS:=yH (pAE (c:=20) (S:=(fun w'=>Below W.heap.size W w')) (T:=T) (k:=1) (D:=D) (by decide) hN hS);clear hI hS hN hC hW hD;go_wp2_with fail;all_goals first|exact HS|exact⟨rfl,HS⟩|rfl
  ·intro D w' hD hW hC hI;have hN:D 20=false:=aAa hC hD 20 (by kernel_rfl);have hS:=hI.pre hN;refine yO rfl ?_;have HS:=yH (pAE (c:=20) (S:=(fun w'=>Below W.heap.size W w')) (T:=T) (k:=2) (D:=D) (by decide) hN hS);clear hI hS hN hC hW hD;go_wp2_with fail;all_goals first|exact HS|exact⟨rfl,HS⟩|rfl
  ·intro D w' hD hW hC hI;have hN:D 20=false:=aAa hC hD 20 (by kernel_rfl);have hS:=hI.pre hN;exact pAC (by kernel_rfl) rfl (pAE (k:=3) (by decide) hN hS)
  ·intro D w' hD hW hC hI;have hN:D 20=false:=aAa hC hD 20 (by kernel_rfl);have hS:=hI.pre hN;exact pAC (by kernel_rfl) rfl (pAE (k:=4) (by decide) hN hS)
  ·intro D w' hD hW hC hI;have hN:D 20=false:=aAa hC hD 20 (by kernel_rfl);have hS:=hI.pre hN;exact pAC (by kernel_rfl) rfl (pAE (k:=5) (by decide) hN hS)
  ·intro D w' hD hW hC hI;have hN:D 20=false:=aAa hC hD 20 (by kernel_rfl);have hS:=hI.pre hN;exact pAC (by kernel_rfl) rfl (pAE (k:=6) (by decide) hN hS)
  ·intro D w' hD hW hC hI;have hN:D 20=false:=aAa hC hD 20 (by kernel_rfl);have hS:=hI.pre hN;exact pAC (by kernel_rfl) rfl (pAE (k:=7) (by decide) hN hS)
  ·intro D w' hD hW hC hI;have hN:D 20=false:=aAa hC hD 20 (by kernel_rfl);have hS:=hI.pre hN;exact pAC (by kernel_rfl) rfl (pAE (k:=8) (by decide) hN hS)
  ·intro D w' hD hW hC hI;have hN:D 20=false:=aAa hC hD 20 (by kernel_rfl);have hS:=hI.pre hN;exact pAC (by kernel_rfl) rfl (pAE (k:=9) (by decide) hN hS)
  ·intro D w' hD hW hC hI;have hN:D 20=false:=aAa hC hD 20 (by kernel_rfl);have hS:=hI.pre hN;exact pAC (by kernel_rfl) rfl (pAE (k:=10) (by decide) hN hS)
  ·intro D w' hD hW hC hI;have hN:D 20=false:=aAa hC hD 20 (by kernel_rfl);have hS:=hI.pre hN;exact pAC (by kernel_rfl) rfl (pAE (k:=11) (by decide) hN hS)
  ·intro D w' hD hW hC hI;have hN:D 20=false:=aAa hC hD 20 (by kernel_rfl);have hS:=hI.pre hN;exact pAC (by kernel_rfl) rfl (pAE (k:=12) (by decide) hN hS)
  ·intro D w' hD hW hC hI;have hN:D 20=false:=aAa hC hD 20 (by kernel_rfl);have hS:=hI.pre hN;refine yO rfl ?_;have HS:=yH (pAE (c:=20) (S:=(fun w'=>Below W.heap.size W w')) (T:=T) (k:=13) (D:=D) (by decide) hN hS);clear hI hS hN hC hW hD;go_wp2_with fail;all_goals first|exact HS|exact⟨rfl,HS⟩|rfl
  ·intro D w' hD hW hC hI;have hN:D 20=false:=aAa hC hD 20 (by kernel_rfl);have hS:=hI.pre hN;refine yO rfl ?_;have HS:=yH (pAE (c:=20) (S:=(fun w'=>Below W.heap.size W w')) (T:=T) (k:=14) (D:=D) (by decide) hN hS);clear hI hS hN hC hW hD;go_wp2_with fail;all_goals first|exact HS|exact⟨rfl,HS⟩|rfl
  ·intro D w' hD hW hC hI;have hN:D 20=false:=aAa hC hD 20 (by kernel_rfl);have hS:=hI.pre hN;refine OpTo.wanted ?_ ?_
   kernel_rfl
   have HS:=yH (pAE (c:=20) (S:=(fun w'=>Below W.heap.size W w')) (T:=T) (k:=15) (D:=D) (by decide) hN hS);clear hI hS hN hC hW hD;go_wp2_with fail;all_goals first|exact HS|exact⟨rfl,HS⟩|rfl
  ·intro D w' hD hW hC hI;have hN:D 20=false:=aAa hC hD 20 (by kernel_rfl);have hS:=hI.pre hN;refine OpTo.wanted ?_ ?_
   kernel_rfl
   have HS:=yH (pAE (c:=20) (S:=(fun w'=>Below W.heap.size W w')) (T:=T) (k:=16) (D:=D) (by decide) hN hS);clear hI hS hN hC hW hD;go_wp2_with fail;all_goals first|exact HS|exact⟨rfl,HS⟩|rfl
  ·intro D w' hD hW hC hI;have hN:D 20=false:=aAa hC hD 20 (by kernel_rfl);have hS:=hI.pre hN;refine OpTo.wanted ?_ ?_
   kernel_rfl
   have HS:=yH (pAE (c:=20) (S:=(fun w'=>Below W.heap.size W w')) (T:=T) (k:=17) (D:=D) (by decide) hN hS);clear hI hS hN hC hW hD;go_wp2_with fail;all_goals first|exact HS|exact⟨rfl,HS⟩|rfl
  ·intro D w' hD hW hC hI;have hN:D 20=false:=aAa hC hD 20 (by kernel_rfl);have hS:=hI.pre hN;refine OpTo.wanted ?_ ?_
   kernel_rfl
   have HS:=yH (pAE (c:=20) (S:=(fun w'=>Below W.heap.size W w')) (T:=T) (k:=18) (D:=D) (by decide) hN hS);clear hI hS hN hC hW hD;go_wp2_with fail;all_goals first|exact HS|exact⟨rfl,HS⟩|rfl
  ·intro D w' hD hW hC hI;have hN:D 20=false:=aAa hC hD 20 (by kernel_rfl);have hS:=hI.pre hN;refine OpTo.wanted ?_ ?_
   kernel_rfl
   have hlt:=yM HBp.o hS.size;have e0:=(hS.cell (p:=⟨bp,op+i.toNat,none⟩) HBp.o).trans HP.o;have HS:=yH (pAE (c:=20) (S:=(fun w'=>Below W.heap.size W w')) (T:=T) (k:=19) (D:=D) (by decide) hN hS);clear hI hS hN hC hW hD;go_wp2_with fail;all_goals first|exact HS|exact⟨rfl,HS⟩|rfl
  ·intro D w' hD hW hC hI;have hN:D 20=false:=hD;have hS:=hI.pre hN;refine OpTo.wanted ?_ ?_
   kernel_rfl
   have HC:=yH (CO.o w' hS);clear hI hS hN hC hW hD;go_wp2_with fail;refine HC.o.mono ?_;rintro e w'' ⟨rfl,hT⟩;exact⟨rfl,Once.done hT⟩
  ·intro D w' hD hW hC hI;have hP:D 20=true:=aAk hC hW (by kernel_rfl);have hT:=hI.post hP;refine OpTo.wanted ?_ ?_
   kernel_rfl
   have HS:=yH (pAF (c:=20) (S:=(fun w'=>Below W.heap.size W w')) (T:=T) (k:=21) (D:=D) (by decide) hP hT);clear hI hT hP hC hW hD;go_wp2_with fail;all_goals first|exact HS|exact⟨rfl,HS⟩|rfl
  intro D w' hD hW hC hI;have hP:D 20=true:=aAk hC hW (by kernel_rfl);have hT:=hI.post hP;refine yO rfl ?_;have HS:=yH (pAF (c:=20) (S:=(fun w'=>Below W.heap.size W w')) (T:=T) (k:=22) (D:=D) (by decide) hP hT);clear hI hT hP hC hW hD;go_wp2_with fail;all_goals first|exact HS|exact⟨rfl,HS⟩|rfl
 intro D w6 hall hI;exact HK.o w6 (hI.post (hall 20 (by decide)))
theorem rof_lt1{W:World}{X G bl ol n lcap:Nat}{i:Int}{x y:Ln}(KX:Hid (Blk W X #[.int .u8 x.cr,.int .u8 x.de,.int .u8 x.cu,.int .i64 x.li,.int .i64 x.db] 71))(FX:Hid x.Fits)(FY:Hid y.Fits)(HBl:Hid (bl<W.heap.size))(HY0:Hid (W.cell? ⟨bl,ol+(i.toNat - 1)*5,none⟩=some (.int .u8 y.cr)))(HY1:Hid (W.cell? ⟨bl,ol+(i.toNat - 1)*5+1,none⟩=some (.int .u8 y.de)))(HY2:Hid (W.cell? ⟨bl,ol+(i.toNat - 1)*5+2,none⟩=some (.int .u8 y.cu)))(HY3:Hid (W.cell? ⟨bl,ol+(i.toNat - 1)*5+3,none⟩=some (.int .i64 y.li)))(HY4:Hid (W.cell? ⟨bl,ol+(i.toNat - 1)*5+4,none⟩=some (.int .i64 y.db)))(i0:0<i)(i1:i<(n:Int))(hn:n≤100000000)(s0:decide (0<i)=true)(c1:decide (x.rank≤y.rank)=true){Q:Exit→Act→World→Prop}{c0 c2 c3 c4 c5 c7 c10 c11 c12 c13 c14 c15 c16 c17 c18 c19 c20 c21 c22 c23 c24 c25 c26 c27 c28 c29 c30 c31 c32 c33 c34 c35 c36 c37 c38 c39 c40 c41 c42 c43 c44 c45 c46 c47 c48 c49 c50 c51 c52 c53 c54 c55 c56 c57 c58 c59 c60 c61 c62 c63 c64 c65 c66 c67 c68 c69 c70 c71 c72 c73 c74 c75 c76 c77 c78 c79 c80 c81 c82 c83 c84 c85 c86 c87 c88 c89 c90 c91 c92 c93 c94 c95 c96 c97 c98 c99 c100:Value}
  (hq:∀w6,(fun w'=>Below W.heap.size W w') w6→Q .normal ⟨#[c0,(.slice (some ⟨bl,ol,none⟩) n lcap),c2,c3,c4,c5,(.pointer (some ⟨G,0,none⟩)),c7,(.int .i64 i),(.pointer (some ⟨X,0,none⟩)),c10,c11,c12,c13,c14,c15,c16,c17,c18,c19,c20,c21,c22,c23,c24,c25,c26,c27,c28,c29,c30,c31,c32,c33,c34,c35,c36,c37,c38,c39,c40,c41,c42,c43,c44,c45,c46,c47,c48,c49,c50,c51,c52,c53,(.int .i64 i),(.bool true),(.bool true),(.agg #[.int .u8 x.cr,.int .u8 x.de,.int .u8 x.cu,.int .i64 x.li,.int .i64 x.db]),(.int .i64 x.rank),(.slice (some ⟨bl,ol,none⟩) n lcap),(.int .i64 i),(.int .i64 (i - 1)),(.pointer (some ⟨bl,ol+(i.toNat - 1)*5,none⟩)),(.agg #[.int .u8 y.cr,.int .u8 y.de,.int .u8 y.cu,.int .i64 y.li,.int .i64 y.db]),(.int .i64 y.rank),(.bool true),(.bool true),(.bool true),undef,undef,undef,(.bool true),(.bool true),undef,undef,undef,(.bool true),(.bool true),undef,undef,undef,undef,undef,(.bool true),(.bool true),undef,undef,undef,undef,undef,undef,undef,undef,undef,undef,undef,(.bool true),c97,c98,c99,c100],[]⟩ w6):
  Code.wp Tryz.prog (((Tryz.f68.body).bind (aAr 13)).getD .skip) Q ⟨#[c0,(.slice (some ⟨bl,ol,none⟩) n lcap),c2,c3,c4,c5,(.pointer (some ⟨G,0,none⟩)),c7,(.int .i64 i),(.pointer (some ⟨X,0,none⟩)),c10,c11,c12,c13,c14,c15,c16,c17,c18,c19,c20,c21,c22,c23,c24,c25,c26,c27,c28,c29,c30,c31,c32,c33,c34,c35,c36,c37,c38,c39,c40,c41,c42,c43,c44,c45,c46,c47,c48,c49,c50,c51,c52,c53,c54,c55,c56,c57,c58,c59,c60,c61,c62,c63,c64,c65,c66,c67,c68,c69,c70,c71,c72,c73,c74,c75,c76,c77,c78,c79,c80,c81,c82,c83,c84,c85,c86,c87,c88,c89,c90,c91,c92,c93,c94,c95,c96,c97,c98,c99,c100],[]⟩ W:=by
 conv=>arg 2;whnf
 have HQ:=yH hq;clear hq
 refine aAg (by kernel_rfl) [(.int .i64 i),(.bool true),(.bool true),(.agg #[.int .u8 x.cr,.int .u8 x.de,.int .u8 x.cu,.int .i64 x.li,.int .i64 x.db]),(.int .i64 x.rank),(.slice (some ⟨bl,ol,none⟩) n lcap),(.int .i64 i),(.int .i64 (i - 1)),(.pointer (some ⟨bl,ol+(i.toNat - 1)*5,none⟩)),(.agg #[.int .u8 y.cr,.int .u8 y.de,.int .u8 y.cu,.int .i64 y.li,.int .i64 y.db]),(.int .i64 y.rank),(.bool true),(.bool true),(.bool true),undef,undef,undef,(.bool true),(.bool true),undef,undef,undef,(.bool true),(.bool true),undef,undef,undef,undef,undef,(.bool true),(.bool true),undef,undef,undef,undef,undef,undef,undef,undef,undef,undef,undef,(.bool true)]
  (fun w'=>Below W.heap.size W w') (by kernel_rfl) yZ.drew ?_
 intro af haf;simp only[yG,List.append_eq,List.cons_append,List.nil_append,puts,Act.put,yA,yC,yF,yD,yE]at haf;subst haf;refine⟨?_,?_⟩
 ·simp only[yG,List.append_eq,List.cons_append,List.nil_append,aAv];refine⟨?z1,?z2,?z3,?_,?_,?z13,?z14,?z15,?z16,?_,?_,?z17,?z4,?z5,?z18,?z19,?z20,?z6,?z7,?z21,?z22,?z23,?z8,?z9,?z24,?z25,?z26,?z27,?z28,?z10,?z11,?z29,?z30,?z31,?z32,?z33,?z34,?z35,?z36,?z37,?z38,?z39,?z12,trivial⟩
  case z1|z2|z3|z4|z5|z6|z7|z8|z9|z10|z11|z12=>
   intro w' hS;refine yO rfl ?_;have HS:=yH hS;clear hS;go_wp2_with fail;all_goals first|exact HS|exact⟨rfl,HS⟩|rfl|exact⟨by omega,HS.o⟩
  case z13|z14|z15|z16|z17=>
   intro w' hS;refine OpTo.wanted ?_ ?_
   kernel_rfl
   have HS:=yH hS;clear hS;go_wp2_with fail;all_goals first|exact HS|exact⟨rfl,HS⟩|rfl|exact⟨by omega,HS.o⟩
  case z18|z19|z20|z21|z22|z23|z24|z25|z26|z27|z28|z29|z30|z31|z32|z33|z34|z35|z36|z37|z38|z39=>
   intro w' hS;refine pAC (by kernel_rfl) rfl hS
  ·intro w' hS;refine OpTo.wanted ?_ ?_
   kernel_rfl
   have d0_0:=(KX.o.below hS KX.o.lt).cell 0;have d0_1:=(KX.o.below hS KX.o.lt).cell 1;have d0_2:=(KX.o.below hS KX.o.lt).cell 2;have d0_3:=(KX.o.below hS KX.o.lt).cell 3;have d0_4:=(KX.o.below hS KX.o.lt).cell 4;simp at d0_0 d0_1 d0_2 d0_3 d0_4;have HS:=yH hS;clear hS;go_wp2_with fail;all_goals first|exact HS|exact⟨rfl,HS⟩|rfl|exact⟨by omega,HS.o⟩
  ·intro w' hS;refine OpTo.wanted ?_ ?_
   kernel_rfl
   have HS:=yH hS;clear hS;go_wp2_with fail;refine(aBj x w' FX.o).mono ?_;rintro e w'' ⟨rfl,hb2⟩;exact⟨rfl,andB HS.o hb2⟩
  ·intro w' hS;refine OpTo.wanted ?_ ?_
   kernel_rfl
   have hlt:=yM HBl.o hS.size;have e0:=(hS.cell (p:=⟨bl,ol+(i.toNat - 1)*5,none⟩) HBl.o).trans HY0.o;have e1:=(hS.cell (p:=⟨bl,ol+(i.toNat - 1)*5+1,none⟩) HBl.o).trans HY1.o;have e2:=(hS.cell (p:=⟨bl,ol+(i.toNat - 1)*5+2,none⟩) HBl.o).trans HY2.o;have e3:=(hS.cell (p:=⟨bl,ol+(i.toNat - 1)*5+3,none⟩) HBl.o).trans HY3.o;have e4:=(hS.cell (p:=⟨bl,ol+(i.toNat - 1)*5+4,none⟩) HBl.o).trans HY4.o;have HS:=yH hS;clear hS;go_wp2_with fail;all_goals first|exact HS|exact⟨rfl,HS⟩|rfl|exact⟨by omega,HS.o⟩
  intro w' hS;refine OpTo.wanted ?_ ?_
  kernel_rfl
  have HS:=yH hS;clear hS;go_wp2_with fail;refine(aBj y w' FY.o).mono ?_;rintro e w'' ⟨rfl,hb2⟩;exact⟨rfl,andB HS.o hb2⟩
 intro w6 b6;exact HQ.o w6 b6
theorem rof_lt2{W:World}{X G bl ol n lcap:Nat}{i:Int}{x y:Ln}(KX:Hid (Blk W X #[.int .u8 x.cr,.int .u8 x.de,.int .u8 x.cu,.int .i64 x.li,.int .i64 x.db] 71))(FX:Hid x.Fits)(FY:Hid y.Fits)(HBl:Hid (bl<W.heap.size))(HY0:Hid (W.cell? ⟨bl,ol+(i.toNat - 1)*5,none⟩=some (.int .u8 y.cr)))(HY1:Hid (W.cell? ⟨bl,ol+(i.toNat - 1)*5+1,none⟩=some (.int .u8 y.de)))(HY2:Hid (W.cell? ⟨bl,ol+(i.toNat - 1)*5+2,none⟩=some (.int .u8 y.cu)))(HY3:Hid (W.cell? ⟨bl,ol+(i.toNat - 1)*5+3,none⟩=some (.int .i64 y.li)))(HY4:Hid (W.cell? ⟨bl,ol+(i.toNat - 1)*5+4,none⟩=some (.int .i64 y.db)))(i0:0<i)(i1:i<(n:Int))(hn:n≤100000000)(s0:decide (0<i)=true)(c1:decide (x.rank≤y.rank)=false)(c2:decide (x.li<1)=true){Q:Exit→Act→World→Prop}{c0 c2 c3 c4 c5 c7 c10 c11 c12 c13 c14 c15 c16 c17 c18 c19 c20 c21 c22 c23 c24 c25 c26 c27 c28 c29 c30 c31 c32 c33 c34 c35 c36 c37 c38 c39 c40 c41 c42 c43 c44 c45 c46 c47 c48 c49 c50 c51 c52 c53 c54 c55 c56 c57 c58 c59 c60 c61 c62 c63 c64 c65 c66 c67 c68 c69 c70 c71 c72 c73 c74 c75 c76 c77 c78 c79 c80 c81 c82 c83 c84 c85 c86 c87 c88 c89 c90 c91 c92 c93 c94 c95 c96 c97 c98 c99 c100:Value}
  (hq:∀w6,(fun w'=>Below W.heap.size W w') w6→Q .normal ⟨#[c0,(.slice (some ⟨bl,ol,none⟩) n lcap),c2,c3,c4,c5,(.pointer (some ⟨G,0,none⟩)),c7,(.int .i64 i),(.pointer (some ⟨X,0,none⟩)),c10,c11,c12,c13,c14,c15,c16,c17,c18,c19,c20,c21,c22,c23,c24,c25,c26,c27,c28,c29,c30,c31,c32,c33,c34,c35,c36,c37,c38,c39,c40,c41,c42,c43,c44,c45,c46,c47,c48,c49,c50,c51,c52,c53,(.int .i64 i),(.bool true),(.bool true),(.agg #[.int .u8 x.cr,.int .u8 x.de,.int .u8 x.cu,.int .i64 x.li,.int .i64 x.db]),(.int .i64 x.rank),(.slice (some ⟨bl,ol,none⟩) n lcap),(.int .i64 i),(.int .i64 (i - 1)),(.pointer (some ⟨bl,ol+(i.toNat - 1)*5,none⟩)),(.agg #[.int .u8 y.cr,.int .u8 y.de,.int .u8 y.cu,.int .i64 y.li,.int .i64 y.db]),(.int .i64 y.rank),(.bool false),(.bool false),(.bool false),(.pointer (some ⟨X,3,none⟩)),(.int .i64 x.li),(.bool true),(.bool true),(.bool true),undef,undef,undef,(.bool true),(.bool true),undef,undef,undef,undef,undef,(.bool true),(.bool true),undef,undef,undef,undef,undef,undef,undef,undef,undef,undef,undef,(.bool true),c97,c98,c99,c100],[]⟩ w6):
  Code.wp Tryz.prog (((Tryz.f68.body).bind (aAr 13)).getD .skip) Q ⟨#[c0,(.slice (some ⟨bl,ol,none⟩) n lcap),c2,c3,c4,c5,(.pointer (some ⟨G,0,none⟩)),c7,(.int .i64 i),(.pointer (some ⟨X,0,none⟩)),c10,c11,c12,c13,c14,c15,c16,c17,c18,c19,c20,c21,c22,c23,c24,c25,c26,c27,c28,c29,c30,c31,c32,c33,c34,c35,c36,c37,c38,c39,c40,c41,c42,c43,c44,c45,c46,c47,c48,c49,c50,c51,c52,c53,c54,c55,c56,c57,c58,c59,c60,c61,c62,c63,c64,c65,c66,c67,c68,c69,c70,c71,c72,c73,c74,c75,c76,c77,c78,c79,c80,c81,c82,c83,c84,c85,c86,c87,c88,c89,c90,c91,c92,c93,c94,c95,c96,c97,c98,c99,c100],[]⟩ W:=by
 conv=>arg 2;whnf
 have HQ:=yH hq;clear hq
 refine aAg (by kernel_rfl) [(.int .i64 i),(.bool true),(.bool true),(.agg #[.int .u8 x.cr,.int .u8 x.de,.int .u8 x.cu,.int .i64 x.li,.int .i64 x.db]),(.int .i64 x.rank),(.slice (some ⟨bl,ol,none⟩) n lcap),(.int .i64 i),(.int .i64 (i - 1)),(.pointer (some ⟨bl,ol+(i.toNat - 1)*5,none⟩)),(.agg #[.int .u8 y.cr,.int .u8 y.de,.int .u8 y.cu,.int .i64 y.li,.int .i64 y.db]),(.int .i64 y.rank),(.bool false),(.bool false),(.bool false),(.pointer (some ⟨X,3,none⟩)),(.int .i64 x.li),(.bool true),(.bool true),(.bool true),undef,undef,undef,(.bool true),(.bool true),undef,undef,undef,undef,undef,(.bool true),(.bool true),undef,undef,undef,undef,undef,undef,undef,undef,undef,undef,undef,(.bool true)]
  (fun w'=>Below W.heap.size W w') (by kernel_rfl) yZ.drew ?_
 intro af haf;simp only[yG,List.append_eq,List.cons_append,List.nil_append,puts,Act.put,yA,yC,yF,yD,yE]at haf;subst haf;refine⟨?_,?_⟩
 ·simp only[yG,List.append_eq,List.cons_append,List.nil_append,aAv];refine⟨?z1,?z2,?z3,?z13,?_,?z15,?z16,?z17,?z18,?_,?_,?z19,?z4,?z5,?z20,?z14,?z21,?z6,?z7,?z22,?z23,?z24,?z8,?z9,?z25,?z26,?z27,?z28,?z29,?z10,?z11,?z30,?z31,?z32,?z33,?z34,?z35,?z36,?z37,?z38,?z39,?z40,?z12,trivial⟩
  case z1|z2|z3|z4|z5|z6|z7|z8|z9|z10|z11|z12=>
   intro w' hS;refine yO rfl ?_;have HS:=yH hS;clear hS;go_wp2_with fail;all_goals first|exact HS|exact⟨rfl,HS⟩|rfl|exact⟨by omega,HS.o⟩
  case z13|z14=>
   intro w' hS;refine OpTo.wanted ?_ ?_
   kernel_rfl
   have d0_0:=(KX.o.below hS KX.o.lt).cell 0;have d0_1:=(KX.o.below hS KX.o.lt).cell 1;have d0_2:=(KX.o.below hS KX.o.lt).cell 2;have d0_3:=(KX.o.below hS KX.o.lt).cell 3;have d0_4:=(KX.o.below hS KX.o.lt).cell 4;simp at d0_0 d0_1 d0_2 d0_3 d0_4;have HS:=yH hS;clear hS;go_wp2_with fail;all_goals first|exact HS|exact⟨rfl,HS⟩|rfl|exact⟨by omega,HS.o⟩
  case z15|z16|z17|z18|z19|z20|z21=>
   intro w' hS;refine OpTo.wanted ?_ ?_
   kernel_rfl
   have HS:=yH hS;clear hS;go_wp2_with fail;all_goals first|exact HS|exact⟨rfl,HS⟩|rfl|exact⟨by omega,HS.o⟩
  case z22|z23|z24|z25|z26|z27|z28|z29|z30|z31|z32|z33|z34|z35|z36|z37|z38|z39|z40=>
   intro w' hS;refine pAC (by kernel_rfl) rfl hS
  ·intro w' hS;refine OpTo.wanted ?_ ?_
   kernel_rfl
   have HS:=yH hS;clear hS;go_wp2_with fail;refine(aBj x w' FX.o).mono ?_;rintro e w'' ⟨rfl,hb2⟩;exact⟨rfl,andB HS.o hb2⟩
  ·intro w' hS;refine OpTo.wanted ?_ ?_
   kernel_rfl
   have hlt:=yM HBl.o hS.size;have e0:=(hS.cell (p:=⟨bl,ol+(i.toNat - 1)*5,none⟩) HBl.o).trans HY0.o;have e1:=(hS.cell (p:=⟨bl,ol+(i.toNat - 1)*5+1,none⟩) HBl.o).trans HY1.o;have e2:=(hS.cell (p:=⟨bl,ol+(i.toNat - 1)*5+2,none⟩) HBl.o).trans HY2.o;have e3:=(hS.cell (p:=⟨bl,ol+(i.toNat - 1)*5+3,none⟩) HBl.o).trans HY3.o;have e4:=(hS.cell (p:=⟨bl,ol+(i.toNat - 1)*5+4,none⟩) HBl.o).trans HY4.o;have HS:=yH hS;clear hS;go_wp2_with fail;all_goals first|exact HS|exact⟨rfl,HS⟩|rfl|exact⟨by omega,HS.o⟩
  intro w' hS;refine OpTo.wanted ?_ ?_
  kernel_rfl
  have HS:=yH hS;clear hS;go_wp2_with fail;refine(aBj y w' FY.o).mono ?_;rintro e w'' ⟨rfl,hb2⟩;exact⟨rfl,andB HS.o hb2⟩
 intro w6 b6;exact HQ.o w6 b6
theorem rof_lt3{W:World}{X G bl ol n lcap:Nat}{i:Int}{x y:Ln}(KX:Hid (Blk W X #[.int .u8 x.cr,.int .u8 x.de,.int .u8 x.cu,.int .i64 x.li,.int .i64 x.db] 71))(FX:Hid x.Fits)(FY:Hid y.Fits)(HBl:Hid (bl<W.heap.size))(HY0:Hid (W.cell? ⟨bl,ol+(i.toNat - 1)*5,none⟩=some (.int .u8 y.cr)))(HY1:Hid (W.cell? ⟨bl,ol+(i.toNat - 1)*5+1,none⟩=some (.int .u8 y.de)))(HY2:Hid (W.cell? ⟨bl,ol+(i.toNat - 1)*5+2,none⟩=some (.int .u8 y.cu)))(HY3:Hid (W.cell? ⟨bl,ol+(i.toNat - 1)*5+3,none⟩=some (.int .i64 y.li)))(HY4:Hid (W.cell? ⟨bl,ol+(i.toNat - 1)*5+4,none⟩=some (.int .i64 y.db)))(i0:0<i)(i1:i<(n:Int))(hn:n≤100000000)(s0:decide (0<i)=true)(c1:decide (x.rank≤y.rank)=false)(c2:decide (x.li<1)=false)(c3:decide (x.db<0)=true){Q:Exit→Act→World→Prop}{c0 c2 c3 c4 c5 c7 c10 c11 c12 c13 c14 c15 c16 c17 c18 c19 c20 c21 c22 c23 c24 c25 c26 c27 c28 c29 c30 c31 c32 c33 c34 c35 c36 c37 c38 c39 c40 c41 c42 c43 c44 c45 c46 c47 c48 c49 c50 c51 c52 c53 c54 c55 c56 c57 c58 c59 c60 c61 c62 c63 c64 c65 c66 c67 c68 c69 c70 c71 c72 c73 c74 c75 c76 c77 c78 c79 c80 c81 c82 c83 c84 c85 c86 c87 c88 c89 c90 c91 c92 c93 c94 c95 c96 c97 c98 c99 c100:Value}
  (hq:∀w6,(fun w'=>Below W.heap.size W w') w6→Q .normal ⟨#[c0,(.slice (some ⟨bl,ol,none⟩) n lcap),c2,c3,c4,c5,(.pointer (some ⟨G,0,none⟩)),c7,(.int .i64 i),(.pointer (some ⟨X,0,none⟩)),c10,c11,c12,c13,c14,c15,c16,c17,c18,c19,c20,c21,c22,c23,c24,c25,c26,c27,c28,c29,c30,c31,c32,c33,c34,c35,c36,c37,c38,c39,c40,c41,c42,c43,c44,c45,c46,c47,c48,c49,c50,c51,c52,c53,(.int .i64 i),(.bool true),(.bool true),(.agg #[.int .u8 x.cr,.int .u8 x.de,.int .u8 x.cu,.int .i64 x.li,.int .i64 x.db]),(.int .i64 x.rank),(.slice (some ⟨bl,ol,none⟩) n lcap),(.int .i64 i),(.int .i64 (i - 1)),(.pointer (some ⟨bl,ol+(i.toNat - 1)*5,none⟩)),(.agg #[.int .u8 y.cr,.int .u8 y.de,.int .u8 y.cu,.int .i64 y.li,.int .i64 y.db]),(.int .i64 y.rank),(.bool false),(.bool false),(.bool false),(.pointer (some ⟨X,3,none⟩)),(.int .i64 x.li),(.bool false),(.bool false),(.bool false),(.pointer (some ⟨X,4,none⟩)),(.int .i64 x.db),(.bool true),(.bool true),(.bool true),undef,undef,undef,undef,undef,(.bool true),(.bool true),undef,undef,undef,undef,undef,undef,undef,undef,undef,undef,undef,(.bool true),c97,c98,c99,c100],[]⟩ w6):
  Code.wp Tryz.prog (((Tryz.f68.body).bind (aAr 13)).getD .skip) Q ⟨#[c0,(.slice (some ⟨bl,ol,none⟩) n lcap),c2,c3,c4,c5,(.pointer (some ⟨G,0,none⟩)),c7,(.int .i64 i),(.pointer (some ⟨X,0,none⟩)),c10,c11,c12,c13,c14,c15,c16,c17,c18,c19,c20,c21,c22,c23,c24,c25,c26,c27,c28,c29,c30,c31,c32,c33,c34,c35,c36,c37,c38,c39,c40,c41,c42,c43,c44,c45,c46,c47,c48,c49,c50,c51,c52,c53,c54,c55,c56,c57,c58,c59,c60,c61,c62,c63,c64,c65,c66,c67,c68,c69,c70,c71,c72,c73,c74,c75,c76,c77,c78,c79,c80,c81,c82,c83,c84,c85,c86,c87,c88,c89,c90,c91,c92,c93,c94,c95,c96,c97,c98,c99,c100],[]⟩ W:=by
 conv=>arg 2;whnf
 have HQ:=yH hq;clear hq
 refine aAg (by kernel_rfl) [(.int .i64 i),(.bool true),(.bool true),(.agg #[.int .u8 x.cr,.int .u8 x.de,.int .u8 x.cu,.int .i64 x.li,.int .i64 x.db]),(.int .i64 x.rank),(.slice (some ⟨bl,ol,none⟩) n lcap),(.int .i64 i),(.int .i64 (i - 1)),(.pointer (some ⟨bl,ol+(i.toNat - 1)*5,none⟩)),(.agg #[.int .u8 y.cr,.int .u8 y.de,.int .u8 y.cu,.int .i64 y.li,.int .i64 y.db]),(.int .i64 y.rank),(.bool false),(.bool false),(.bool false),(.pointer (some ⟨X,3,none⟩)),(.int .i64 x.li),(.bool false),(.bool false),(.bool false),(.pointer (some ⟨X,4,none⟩)),(.int .i64 x.db),(.bool true),(.bool true),(.bool true),undef,undef,undef,undef,undef,(.bool true),(.bool true),undef,undef,undef,undef,undef,undef,undef,undef,undef,undef,undef,(.bool true)]
  (fun w'=>Below W.heap.size W w') (by kernel_rfl) yZ.drew ?_
 intro af haf;simp only[yG,List.append_eq,List.cons_append,List.nil_append,puts,Act.put,yA,yC,yF,yD,yE]at haf;subst haf;refine⟨?_,?_⟩
 ·simp only[yG,List.append_eq,List.cons_append,List.nil_append,aAv];refine⟨?z1,?z2,?z3,?z13,?_,?z16,?z17,?z18,?z19,?_,?_,?z20,?z4,?z5,?z21,?z14,?z22,?z6,?z7,?z23,?z15,?z24,?z8,?z9,?z25,?z26,?z27,?z28,?z29,?z10,?z11,?z30,?z31,?z32,?z33,?z34,?z35,?z36,?z37,?z38,?z39,?z40,?z12,trivial⟩
  case z1|z2|z3|z4|z5|z6|z7|z8|z9|z10|z11|z12=>
   intro w' hS;refine yO rfl ?_;have HS:=yH hS;clear hS;go_wp2_with fail;all_goals first|exact HS|exact⟨rfl,HS⟩|rfl|exact⟨by omega,HS.o⟩
  case z13|z14|z15=>
   intro w' hS;refine OpTo.wanted ?_ ?_
   kernel_rfl
   have d0_0:=(KX.o.below hS KX.o.lt).cell 0;have d0_1:=(KX.o.below hS KX.o.lt).cell 1;have d0_2:=(KX.o.below hS KX.o.lt).cell 2;have d0_3:=(KX.o.below hS KX.o.lt).cell 3;have d0_4:=(KX.o.below hS KX.o.lt).cell 4;simp at d0_0 d0_1 d0_2 d0_3 d0_4;have HS:=yH hS;clear hS;go_wp2_with fail;all_goals first|exact HS|exact⟨rfl,HS⟩|rfl|exact⟨by omega,HS.o⟩
  case z16|z17|z18|z19|z20|z21|z22|z23|z24=>
   intro w' hS;refine OpTo.wanted ?_ ?_
   kernel_rfl
   have HS:=yH hS;clear hS;go_wp2_with fail;all_goals first|exact HS|exact⟨rfl,HS⟩|rfl|exact⟨by omega,HS.o⟩
  case z25|z26|z27|z28|z29|z30|z31|z32|z33|z34|z35|z36|z37|z38|z39|z40=>
   intro w' hS;refine pAC (by kernel_rfl) rfl hS
  ·intro w' hS;refine OpTo.wanted ?_ ?_
   kernel_rfl
   have HS:=yH hS;clear hS;go_wp2_with fail;refine(aBj x w' FX.o).mono ?_;rintro e w'' ⟨rfl,hb2⟩;exact⟨rfl,andB HS.o hb2⟩
  ·intro w' hS;refine OpTo.wanted ?_ ?_
   kernel_rfl
   have hlt:=yM HBl.o hS.size;have e0:=(hS.cell (p:=⟨bl,ol+(i.toNat - 1)*5,none⟩) HBl.o).trans HY0.o;have e1:=(hS.cell (p:=⟨bl,ol+(i.toNat - 1)*5+1,none⟩) HBl.o).trans HY1.o;have e2:=(hS.cell (p:=⟨bl,ol+(i.toNat - 1)*5+2,none⟩) HBl.o).trans HY2.o;have e3:=(hS.cell (p:=⟨bl,ol+(i.toNat - 1)*5+3,none⟩) HBl.o).trans HY3.o;have e4:=(hS.cell (p:=⟨bl,ol+(i.toNat - 1)*5+4,none⟩) HBl.o).trans HY4.o;have HS:=yH hS;clear hS;go_wp2_with fail;all_goals first|exact HS|exact⟨rfl,HS⟩|rfl|exact⟨by omega,HS.o⟩
  intro w' hS;refine OpTo.wanted ?_ ?_
  kernel_rfl
  have HS:=yH hS;clear hS;go_wp2_with fail;refine(aBj y w' FY.o).mono ?_;rintro e w'' ⟨rfl,hb2⟩;exact⟨rfl,andB HS.o hb2⟩
 intro w6 b6;exact HQ.o w6 b6
theorem rof_lt4{W:World}{X G bl ol n lcap:Nat}{i:Int}{x y:Ln}(KX:Hid (Blk W X #[.int .u8 x.cr,.int .u8 x.de,.int .u8 x.cu,.int .i64 x.li,.int .i64 x.db] 71))(FX:Hid x.Fits)(FY:Hid y.Fits)(HBl:Hid (bl<W.heap.size))(HY0:Hid (W.cell? ⟨bl,ol+(i.toNat - 1)*5,none⟩=some (.int .u8 y.cr)))(HY1:Hid (W.cell? ⟨bl,ol+(i.toNat - 1)*5+1,none⟩=some (.int .u8 y.de)))(HY2:Hid (W.cell? ⟨bl,ol+(i.toNat - 1)*5+2,none⟩=some (.int .u8 y.cu)))(HY3:Hid (W.cell? ⟨bl,ol+(i.toNat - 1)*5+3,none⟩=some (.int .i64 y.li)))(HY4:Hid (W.cell? ⟨bl,ol+(i.toNat - 1)*5+4,none⟩=some (.int .i64 y.db)))(i0:0<i)(i1:i<(n:Int))(hn:n≤100000000)(s0:decide (0<i)=true)(c1:decide (x.rank≤y.rank)=false)(c2:decide (x.li<1)=false)(c3:decide (x.db<0)=false)(c4:decide (x.li<x.db)=true){Q:Exit→Act→World→Prop}{c0 c2 c3 c4 c5 c7 c10 c11 c12 c13 c14 c15 c16 c17 c18 c19 c20 c21 c22 c23 c24 c25 c26 c27 c28 c29 c30 c31 c32 c33 c34 c35 c36 c37 c38 c39 c40 c41 c42 c43 c44 c45 c46 c47 c48 c49 c50 c51 c52 c53 c54 c55 c56 c57 c58 c59 c60 c61 c62 c63 c64 c65 c66 c67 c68 c69 c70 c71 c72 c73 c74 c75 c76 c77 c78 c79 c80 c81 c82 c83 c84 c85 c86 c87 c88 c89 c90 c91 c92 c93 c94 c95 c96 c97 c98 c99 c100:Value}
  (hq:∀w6,(fun w'=>Below W.heap.size W w') w6→Q .normal ⟨#[c0,(.slice (some ⟨bl,ol,none⟩) n lcap),c2,c3,c4,c5,(.pointer (some ⟨G,0,none⟩)),c7,(.int .i64 i),(.pointer (some ⟨X,0,none⟩)),c10,c11,c12,c13,c14,c15,c16,c17,c18,c19,c20,c21,c22,c23,c24,c25,c26,c27,c28,c29,c30,c31,c32,c33,c34,c35,c36,c37,c38,c39,c40,c41,c42,c43,c44,c45,c46,c47,c48,c49,c50,c51,c52,c53,(.int .i64 i),(.bool true),(.bool true),(.agg #[.int .u8 x.cr,.int .u8 x.de,.int .u8 x.cu,.int .i64 x.li,.int .i64 x.db]),(.int .i64 x.rank),(.slice (some ⟨bl,ol,none⟩) n lcap),(.int .i64 i),(.int .i64 (i - 1)),(.pointer (some ⟨bl,ol+(i.toNat - 1)*5,none⟩)),(.agg #[.int .u8 y.cr,.int .u8 y.de,.int .u8 y.cu,.int .i64 y.li,.int .i64 y.db]),(.int .i64 y.rank),(.bool false),(.bool false),(.bool false),(.pointer (some ⟨X,3,none⟩)),(.int .i64 x.li),(.bool false),(.bool false),(.bool false),(.pointer (some ⟨X,4,none⟩)),(.int .i64 x.db),(.bool false),(.bool false),(.bool false),(.pointer (some ⟨X,4,none⟩)),(.int .i64 x.db),(.pointer (some ⟨X,3,none⟩)),(.int .i64 x.li),(.bool true),(.bool true),(.bool true),undef,undef,undef,undef,undef,undef,undef,undef,undef,undef,undef,(.bool true),c97,c98,c99,c100],[]⟩ w6):
  Code.wp Tryz.prog (((Tryz.f68.body).bind (aAr 13)).getD .skip) Q ⟨#[c0,(.slice (some ⟨bl,ol,none⟩) n lcap),c2,c3,c4,c5,(.pointer (some ⟨G,0,none⟩)),c7,(.int .i64 i),(.pointer (some ⟨X,0,none⟩)),c10,c11,c12,c13,c14,c15,c16,c17,c18,c19,c20,c21,c22,c23,c24,c25,c26,c27,c28,c29,c30,c31,c32,c33,c34,c35,c36,c37,c38,c39,c40,c41,c42,c43,c44,c45,c46,c47,c48,c49,c50,c51,c52,c53,c54,c55,c56,c57,c58,c59,c60,c61,c62,c63,c64,c65,c66,c67,c68,c69,c70,c71,c72,c73,c74,c75,c76,c77,c78,c79,c80,c81,c82,c83,c84,c85,c86,c87,c88,c89,c90,c91,c92,c93,c94,c95,c96,c97,c98,c99,c100],[]⟩ W:=by
 conv=>arg 2;whnf
 have HQ:=yH hq;clear hq
 refine aAg (by kernel_rfl) [(.int .i64 i),(.bool true),(.bool true),(.agg #[.int .u8 x.cr,.int .u8 x.de,.int .u8 x.cu,.int .i64 x.li,.int .i64 x.db]),(.int .i64 x.rank),(.slice (some ⟨bl,ol,none⟩) n lcap),(.int .i64 i),(.int .i64 (i - 1)),(.pointer (some ⟨bl,ol+(i.toNat - 1)*5,none⟩)),(.agg #[.int .u8 y.cr,.int .u8 y.de,.int .u8 y.cu,.int .i64 y.li,.int .i64 y.db]),(.int .i64 y.rank),(.bool false),(.bool false),(.bool false),(.pointer (some ⟨X,3,none⟩)),(.int .i64 x.li),(.bool false),(.bool false),(.bool false),(.pointer (some ⟨X,4,none⟩)),(.int .i64 x.db),(.bool false),(.bool false),(.bool false),(.pointer (some ⟨X,4,none⟩)),(.int .i64 x.db),(.pointer (some ⟨X,3,none⟩)),(.int .i64 x.li),(.bool true),(.bool true),(.bool true),undef,undef,undef,undef,undef,undef,undef,undef,undef,undef,undef,(.bool true)]
  (fun w'=>Below W.heap.size W w') (by kernel_rfl) yZ.drew ?_
 intro af haf;simp only[yG,List.append_eq,List.cons_append,List.nil_append,puts,Act.put,yA,yC,yF,yD,yE]at haf;subst haf;refine⟨?_,?_⟩
 ·simp only[yG,List.append_eq,List.cons_append,List.nil_append,aAv];refine⟨?z1,?z2,?z3,?z13,?_,?z18,?z19,?z20,?z21,?_,?_,?z22,?z4,?z5,?z23,?z14,?z24,?z6,?z7,?z25,?z15,?z26,?z8,?z9,?z27,?z16,?z28,?z17,?z29,?z10,?z11,?z30,?z31,?z32,?z33,?z34,?z35,?z36,?z37,?z38,?z39,?z40,?z12,trivial⟩
  case z1|z2|z3|z4|z5|z6|z7|z8|z9|z10|z11|z12=>
   intro w' hS;refine yO rfl ?_;have HS:=yH hS;clear hS;go_wp2_with fail;all_goals first|exact HS|exact⟨rfl,HS⟩|rfl|exact⟨by omega,HS.o⟩
  case z13|z14|z15|z16|z17=>
   intro w' hS;refine OpTo.wanted ?_ ?_
   kernel_rfl
   have d0_0:=(KX.o.below hS KX.o.lt).cell 0;have d0_1:=(KX.o.below hS KX.o.lt).cell 1;have d0_2:=(KX.o.below hS KX.o.lt).cell 2;have d0_3:=(KX.o.below hS KX.o.lt).cell 3;have d0_4:=(KX.o.below hS KX.o.lt).cell 4;simp at d0_0 d0_1 d0_2 d0_3 d0_4;have HS:=yH hS;clear hS;go_wp2_with fail;all_goals first|exact HS|exact⟨rfl,HS⟩|rfl|exact⟨by omega,HS.o⟩
  case z18|z19|z20|z21|z22|z23|z24|z25|z26|z27|z28|z29=>
   intro w' hS;refine OpTo.wanted ?_ ?_
   kernel_rfl
   have HS:=yH hS;clear hS;go_wp2_with fail;all_goals first|exact HS|exact⟨rfl,HS⟩|rfl|exact⟨by omega,HS.o⟩
  case z30|z31|z32|z33|z34|z35|z36|z37|z38|z39|z40=>
   intro w' hS;refine pAC (by kernel_rfl) rfl hS
  ·intro w' hS;refine OpTo.wanted ?_ ?_
   kernel_rfl
   have HS:=yH hS;clear hS;go_wp2_with fail;refine(aBj x w' FX.o).mono ?_;rintro e w'' ⟨rfl,hb2⟩;exact⟨rfl,andB HS.o hb2⟩
  ·intro w' hS;refine OpTo.wanted ?_ ?_
   kernel_rfl
   have hlt:=yM HBl.o hS.size;have e0:=(hS.cell (p:=⟨bl,ol+(i.toNat - 1)*5,none⟩) HBl.o).trans HY0.o;have e1:=(hS.cell (p:=⟨bl,ol+(i.toNat - 1)*5+1,none⟩) HBl.o).trans HY1.o;have e2:=(hS.cell (p:=⟨bl,ol+(i.toNat - 1)*5+2,none⟩) HBl.o).trans HY2.o;have e3:=(hS.cell (p:=⟨bl,ol+(i.toNat - 1)*5+3,none⟩) HBl.o).trans HY3.o;have e4:=(hS.cell (p:=⟨bl,ol+(i.toNat - 1)*5+4,none⟩) HBl.o).trans HY4.o;have HS:=yH hS;clear hS;go_wp2_with fail;all_goals first|exact HS|exact⟨rfl,HS⟩|rfl|exact⟨by omega,HS.o⟩
  intro w' hS;refine OpTo.wanted ?_ ?_
  kernel_rfl
  have HS:=yH hS;clear hS;go_wp2_with fail;refine(aBj y w' FY.o).mono ?_;rintro e w'' ⟨rfl,hb2⟩;exact⟨rfl,andB HS.o hb2⟩
 intro w6 b6;exact HQ.o w6 b6
theorem rof_lt5{W:World}{X G bl ol n lcap:Nat}{i:Int}{x y:Ln}(KX:Hid (Blk W X #[.int .u8 x.cr,.int .u8 x.de,.int .u8 x.cu,.int .i64 x.li,.int .i64 x.db] 71))(FX:Hid x.Fits)(FY:Hid y.Fits)(HBl:Hid (bl<W.heap.size))(HY0:Hid (W.cell? ⟨bl,ol+(i.toNat - 1)*5,none⟩=some (.int .u8 y.cr)))(HY1:Hid (W.cell? ⟨bl,ol+(i.toNat - 1)*5+1,none⟩=some (.int .u8 y.de)))(HY2:Hid (W.cell? ⟨bl,ol+(i.toNat - 1)*5+2,none⟩=some (.int .u8 y.cu)))(HY3:Hid (W.cell? ⟨bl,ol+(i.toNat - 1)*5+3,none⟩=some (.int .i64 y.li)))(HY4:Hid (W.cell? ⟨bl,ol+(i.toNat - 1)*5+4,none⟩=some (.int .i64 y.db)))(i0:0<i)(i1:i<(n:Int))(hn:n≤100000000)(s0:decide (0<i)=true)(c1:decide (x.rank≤y.rank)=false)(c2:decide (x.li<1)=false)(c3:decide (x.db<0)=false)(c4:decide (x.li<x.db)=false){er:Int}(her:er≠0){T:World→Prop}(CT:Hid (∀w',Below W.heap.size W w'→Calls Tryz.prog 82 #[.pointer (some ⟨G,0,none⟩),.int .u8 x.cr,.int .u8 x.de,.int .u8 x.cu,.int .i64 x.li] w' fun e w''=>e=.returned (.int .i64 er)∧T w'')){Q:Exit→Act→World→Prop}{c0 c2 c3 c4 c5 c7 c10 c11 c12 c13 c14 c15 c16 c17 c18 c19 c20 c21 c22 c23 c24 c25 c26 c27 c28 c29 c30 c31 c32 c33 c34 c35 c36 c37 c38 c39 c40 c41 c42 c43 c44 c45 c46 c47 c48 c49 c50 c51 c52 c53 c54 c55 c56 c57 c58 c59 c60 c61 c62 c63 c64 c65 c66 c67 c68 c69 c70 c71 c72 c73 c74 c75 c76 c77 c78 c79 c80 c81 c82 c83 c84 c85 c86 c87 c88 c89 c90 c91 c92 c93 c94 c95 c96 c97 c98 c99 c100:Value}
  (hq:∀w6,T w6→Q .normal ⟨#[c0,(.slice (some ⟨bl,ol,none⟩) n lcap),c2,c3,c4,c5,(.pointer (some ⟨G,0,none⟩)),c7,(.int .i64 i),(.pointer (some ⟨X,0,none⟩)),c10,c11,c12,c13,c14,c15,c16,c17,c18,c19,c20,c21,c22,c23,c24,c25,c26,c27,c28,c29,c30,c31,c32,c33,c34,c35,c36,c37,c38,c39,c40,c41,c42,c43,c44,c45,c46,c47,c48,c49,c50,c51,c52,c53,(.int .i64 i),(.bool true),(.bool true),(.agg #[.int .u8 x.cr,.int .u8 x.de,.int .u8 x.cu,.int .i64 x.li,.int .i64 x.db]),(.int .i64 x.rank),(.slice (some ⟨bl,ol,none⟩) n lcap),(.int .i64 i),(.int .i64 (i - 1)),(.pointer (some ⟨bl,ol+(i.toNat - 1)*5,none⟩)),(.agg #[.int .u8 y.cr,.int .u8 y.de,.int .u8 y.cu,.int .i64 y.li,.int .i64 y.db]),(.int .i64 y.rank),(.bool false),(.bool false),(.bool false),(.pointer (some ⟨X,3,none⟩)),(.int .i64 x.li),(.bool false),(.bool false),(.bool false),(.pointer (some ⟨X,4,none⟩)),(.int .i64 x.db),(.bool false),(.bool false),(.bool false),(.pointer (some ⟨X,4,none⟩)),(.int .i64 x.db),(.pointer (some ⟨X,3,none⟩)),(.int .i64 x.li),(.bool false),(.bool false),(.bool false),(.pointer (some ⟨G,0,none⟩)),(.pointer (some ⟨X,0,none⟩)),(.int .u8 x.cr),(.pointer (some ⟨X,1,none⟩)),(.int .u8 x.de),(.pointer (some ⟨X,2,none⟩)),(.int .u8 x.cu),(.pointer (some ⟨X,3,none⟩)),(.int .i64 x.li),(.int .i64 er),(.bool true),(.bool true),c97,c98,c99,c100],[]⟩ w6):
  Code.wp Tryz.prog (((Tryz.f68.body).bind (aAr 13)).getD .skip) Q ⟨#[c0,(.slice (some ⟨bl,ol,none⟩) n lcap),c2,c3,c4,c5,(.pointer (some ⟨G,0,none⟩)),c7,(.int .i64 i),(.pointer (some ⟨X,0,none⟩)),c10,c11,c12,c13,c14,c15,c16,c17,c18,c19,c20,c21,c22,c23,c24,c25,c26,c27,c28,c29,c30,c31,c32,c33,c34,c35,c36,c37,c38,c39,c40,c41,c42,c43,c44,c45,c46,c47,c48,c49,c50,c51,c52,c53,c54,c55,c56,c57,c58,c59,c60,c61,c62,c63,c64,c65,c66,c67,c68,c69,c70,c71,c72,c73,c74,c75,c76,c77,c78,c79,c80,c81,c82,c83,c84,c85,c86,c87,c88,c89,c90,c91,c92,c93,c94,c95,c96,c97,c98,c99,c100],[]⟩ W:=by
 conv=>arg 2;whnf
 have HQ:=yH hq;clear hq;have c5:(er==0)=false:=by simpa using her
 have c6:decide (er=0)=false:=by simpa using her
 have c7:(er != 0)=true:=by simpa using her
 have c8:decide (¬er=0)=true:=by simpa using her
 clear her
 refine aA4 (by kernel_rfl) [(.int .i64 i),(.bool true),(.bool true),(.agg #[.int .u8 x.cr,.int .u8 x.de,.int .u8 x.cu,.int .i64 x.li,.int .i64 x.db]),(.int .i64 x.rank),(.slice (some ⟨bl,ol,none⟩) n lcap),(.int .i64 i),(.int .i64 (i - 1)),(.pointer (some ⟨bl,ol+(i.toNat - 1)*5,none⟩)),(.agg #[.int .u8 y.cr,.int .u8 y.de,.int .u8 y.cu,.int .i64 y.li,.int .i64 y.db]),(.int .i64 y.rank),(.bool false),(.bool false),(.bool false),(.pointer (some ⟨X,3,none⟩)),(.int .i64 x.li),(.bool false),(.bool false),(.bool false),(.pointer (some ⟨X,4,none⟩)),(.int .i64 x.db),(.bool false),(.bool false),(.bool false),(.pointer (some ⟨X,4,none⟩)),(.int .i64 x.db),(.pointer (some ⟨X,3,none⟩)),(.int .i64 x.li),(.bool false),(.bool false),(.bool false),(.pointer (some ⟨G,0,none⟩)),(.pointer (some ⟨X,0,none⟩)),(.int .u8 x.cr),(.pointer (some ⟨X,1,none⟩)),(.int .u8 x.de),(.pointer (some ⟨X,2,none⟩)),(.int .u8 x.cu),(.pointer (some ⟨X,3,none⟩)),(.int .i64 x.li),(.int .i64 er),(.bool true),(.bool true)]
  (Once 40 (fun w'=>Below W.heap.size W w') T) (by kernel_rfl) (Once.start yZ.drew) ?_
 intro af haf;simp only[yG,List.append_eq,List.cons_append,List.nil_append,puts,Act.put,yA,yC,yF,yD,yE]at haf;subst haf;refine⟨?_,?_⟩
 ·simp only[yG,List.append_eq,List.cons_append,List.nil_append,aCd];refine⟨?_,?_,?_,?_,?_,?_,?_,?_,?_,?_,?_,?_,?_,?_,?_,?_,?_,?_,?_,?_,?_,?_,?_,?_,?_,?_,?_,?_,?_,?_,?_,?_,?_,?_,?_,?_,?_,?_,?_,?_,?_,?_,?_,trivial⟩
  ·intro D w' hD hW hC hI;have hN:D 40=false:=aAa hC hD 40 (by kernel_rfl);have hS:=hI.pre hN;refine yO rfl ?_;have HS:=yH (pAE (c:=40) (S:=(fun w'=>Below W.heap.size W w')) (T:=T) (k:=0) (D:=D) (by decide) hN hS);clear hI hS hN hC hW hD;go_wp2_with fail;all_goals first|exact HS|exact⟨rfl,HS⟩|rfl
  ·intro D w' hD hW hC hI;have hN:D 40=false:=aAa hC hD 40 (by kernel_rfl);have hS:=hI.pre hN;refine yO rfl ?_;have HS:=yH (pAE (c:=40) (S:=(fun w'=>Below W.heap.size W w')) (T:=T) (k:=1) (D:=D) (by decide) hN hS);clear hI hS hN hC hW hD;go_wp2_with fail;all_goals first|exact HS|exact⟨rfl,HS⟩|rfl
  ·intro D w' hD hW hC hI;have hN:D 40=false:=aAa hC hD 40 (by kernel_rfl);have hS:=hI.pre hN;refine yO rfl ?_;have HS:=yH (pAE (c:=40) (S:=(fun w'=>Below W.heap.size W w')) (T:=T) (k:=2) (D:=D) (by decide) hN hS);clear hI hS hN hC hW hD;go_wp2_with fail;all_goals first|exact HS|exact⟨rfl,HS⟩|rfl
  ·intro D w' hD hW hC hI;have hN:D 40=false:=aAa hC hD 40 (by kernel_rfl);have hS:=hI.pre hN;refine OpTo.wanted ?_ ?_
   kernel_rfl
   have hl0:=yM KX.o.lt hS.size;have d0_0:=(KX.o.below hS KX.o.lt).cell 0;have d0_1:=(KX.o.below hS KX.o.lt).cell 1;have d0_2:=(KX.o.below hS KX.o.lt).cell 2;have d0_3:=(KX.o.below hS KX.o.lt).cell 3;have d0_4:=(KX.o.below hS KX.o.lt).cell 4;simp at d0_0 d0_1 d0_2 d0_3 d0_4;have HS:=yH (pAE (c:=40) (S:=(fun w'=>Below W.heap.size W w')) (T:=T) (k:=3) (D:=D) (by decide) hN hS);clear hI hS hN hC hW hD;go_wp2_with fail;all_goals first|exact HS|exact⟨rfl,HS⟩|rfl
  ·intro D w' hD hW hC hI;have hN:D 40=false:=aAa hC hD 40 (by kernel_rfl);have hS:=hI.pre hN;refine OpTo.wanted ?_ ?_
   kernel_rfl
   have HS:=yH hS;have HN:=yH hN;have HC:=yH (aBj x w' FX.o);clear hI hS hN hC hW hD;go_wp2_with fail;refine HC.o.mono ?_;rintro e w'' ⟨rfl,hb2⟩;exact⟨rfl,pAE (k:=4) (by decide) HN.o (andB HS.o hb2)⟩
  ·intro D w' hD hW hC hI;have hN:D 40=false:=aAa hC hD 40 (by kernel_rfl);have hS:=hI.pre hN;refine OpTo.wanted ?_ ?_
   kernel_rfl
   have HS:=yH (pAE (c:=40) (S:=(fun w'=>Below W.heap.size W w')) (T:=T) (k:=5) (D:=D) (by decide) hN hS);clear hI hS hN hC hW hD;go_wp2_with fail;all_goals first|exact HS|exact⟨rfl,HS⟩|rfl
  ·intro D w' hD hW hC hI;have hN:D 40=false:=aAa hC hD 40 (by kernel_rfl);have hS:=hI.pre hN;refine OpTo.wanted ?_ ?_
   kernel_rfl
   have HS:=yH (pAE (c:=40) (S:=(fun w'=>Below W.heap.size W w')) (T:=T) (k:=6) (D:=D) (by decide) hN hS);clear hI hS hN hC hW hD;go_wp2_with fail;all_goals first|exact HS|exact⟨rfl,HS⟩|rfl
  ·intro D w' hD hW hC hI;have hN:D 40=false:=aAa hC hD 40 (by kernel_rfl);have hS:=hI.pre hN;refine OpTo.wanted ?_ ?_
   kernel_rfl
   have HS:=yH (pAE (c:=40) (S:=(fun w'=>Below W.heap.size W w')) (T:=T) (k:=7) (D:=D) (by decide) hN hS);clear hI hS hN hC hW hD;go_wp2_with fail;all_goals first|exact HS|exact⟨rfl,HS⟩|rfl
  ·intro D w' hD hW hC hI;have hN:D 40=false:=aAa hC hD 40 (by kernel_rfl);have hS:=hI.pre hN;refine OpTo.wanted ?_ ?_
   kernel_rfl
   have HS:=yH (pAE (c:=40) (S:=(fun w'=>Below W.heap.size W w')) (T:=T) (k:=8) (D:=D) (by decide) hN hS);clear hI hS hN hC hW hD;go_wp2_with fail;all_goals first|exact HS|exact⟨rfl,HS⟩|rfl
  ·intro D w' hD hW hC hI;have hN:D 40=false:=aAa hC hD 40 (by kernel_rfl);have hS:=hI.pre hN;refine OpTo.wanted ?_ ?_
   kernel_rfl
   have hlt:=yM HBl.o hS.size;have e0:=(hS.cell (p:=⟨bl,ol+(i.toNat - 1)*5,none⟩) HBl.o).trans HY0.o;have e1:=(hS.cell (p:=⟨bl,ol+(i.toNat - 1)*5+1,none⟩) HBl.o).trans HY1.o;have e2:=(hS.cell (p:=⟨bl,ol+(i.toNat - 1)*5+2,none⟩) HBl.o).trans HY2.o;have e3:=(hS.cell (p:=⟨bl,ol+(i.toNat - 1)*5+3,none⟩) HBl.o).trans HY3.o;have e4:=(hS.cell (p:=⟨bl,ol+(i.toNat - 1)*5+4,none⟩) HBl.o).trans HY4.o;have HS:=yH (pAE (c:=40) (S:=(fun w'=>Below W.heap.size W w')) (T:=T) (k:=9) (D:=D) (by decide) hN hS);clear hI hS hN hC hW hD;go_wp2_with fail;all_goals first|exact HS|exact⟨rfl,HS⟩|rfl
  ·intro D w' hD hW hC hI;have hN:D 40=false:=aAa hC hD 40 (by kernel_rfl);have hS:=hI.pre hN;refine OpTo.wanted ?_ ?_
   kernel_rfl
   have HS:=yH hS;have HN:=yH hN;have HC:=yH (aBj y w' FY.o);clear hI hS hN hC hW hD;go_wp2_with fail;refine HC.o.mono ?_;rintro e w'' ⟨rfl,hb2⟩;exact⟨rfl,pAE (k:=10) (by decide) HN.o (andB HS.o hb2)⟩
  ·intro D w' hD hW hC hI;have hN:D 40=false:=aAa hC hD 40 (by kernel_rfl);have hS:=hI.pre hN;refine OpTo.wanted ?_ ?_
   kernel_rfl
   have HS:=yH (pAE (c:=40) (S:=(fun w'=>Below W.heap.size W w')) (T:=T) (k:=11) (D:=D) (by decide) hN hS);clear hI hS hN hC hW hD;go_wp2_with fail;all_goals first|exact HS|exact⟨rfl,HS⟩|rfl
  ·intro D w' hD hW hC hI;have hN:D 40=false:=aAa hC hD 40 (by kernel_rfl);have hS:=hI.pre hN;refine yO rfl ?_;have HS:=yH (pAE (c:=40) (S:=(fun w'=>Below W.heap.size W w')) (T:=T) (k:=12) (D:=D) (by decide) hN hS);clear hI hS hN hC hW hD;go_wp2_with fail;all_goals first|exact HS|exact⟨rfl,HS⟩|rfl
  ·intro D w' hD hW hC hI;have hN:D 40=false:=aAa hC hD 40 (by kernel_rfl);have hS:=hI.pre hN;refine yO rfl ?_;have HS:=yH (pAE (c:=40) (S:=(fun w'=>Below W.heap.size W w')) (T:=T) (k:=13) (D:=D) (by decide) hN hS);clear hI hS hN hC hW hD;go_wp2_with fail;all_goals first|exact HS|exact⟨rfl,HS⟩|rfl
  ·intro D w' hD hW hC hI;have hN:D 40=false:=aAa hC hD 40 (by kernel_rfl);have hS:=hI.pre hN;refine OpTo.wanted ?_ ?_
   kernel_rfl
   have HS:=yH (pAE (c:=40) (S:=(fun w'=>Below W.heap.size W w')) (T:=T) (k:=14) (D:=D) (by decide) hN hS);clear hI hS hN hC hW hD;go_wp2_with fail;all_goals first|exact HS|exact⟨rfl,HS⟩|rfl
  ·intro D w' hD hW hC hI;have hN:D 40=false:=aAa hC hD 40 (by kernel_rfl);have hS:=hI.pre hN;refine OpTo.wanted ?_ ?_
   kernel_rfl
   have hl0:=yM KX.o.lt hS.size;have d0_0:=(KX.o.below hS KX.o.lt).cell 0;have d0_1:=(KX.o.below hS KX.o.lt).cell 1;have d0_2:=(KX.o.below hS KX.o.lt).cell 2;have d0_3:=(KX.o.below hS KX.o.lt).cell 3;have d0_4:=(KX.o.below hS KX.o.lt).cell 4;simp at d0_0 d0_1 d0_2 d0_3 d0_4;have HS:=yH (pAE (c:=40) (S:=(fun w'=>Below W.heap.size W w')) (T:=T) (k:=15) (D:=D) (by decide) hN hS);clear hI hS hN hC hW hD;go_wp2_with fail;all_goals first|exact HS|exact⟨rfl,HS⟩|rfl
  ·intro D w' hD hW hC hI;have hN:D 40=false:=aAa hC hD 40 (by kernel_rfl);have hS:=hI.pre hN;refine OpTo.wanted ?_ ?_
   kernel_rfl
   have HS:=yH (pAE (c:=40) (S:=(fun w'=>Below W.heap.size W w')) (T:=T) (k:=16) (D:=D) (by decide) hN hS);clear hI hS hN hC hW hD;go_wp2_with fail;all_goals first|exact HS|exact⟨rfl,HS⟩|rfl
  ·intro D w' hD hW hC hI;have hN:D 40=false:=aAa hC hD 40 (by kernel_rfl);have hS:=hI.pre hN;refine yO rfl ?_;have HS:=yH (pAE (c:=40) (S:=(fun w'=>Below W.heap.size W w')) (T:=T) (k:=17) (D:=D) (by decide) hN hS);clear hI hS hN hC hW hD;go_wp2_with fail;all_goals first|exact HS|exact⟨rfl,HS⟩|rfl
  ·intro D w' hD hW hC hI;have hN:D 40=false:=aAa hC hD 40 (by kernel_rfl);have hS:=hI.pre hN;refine yO rfl ?_;have HS:=yH (pAE (c:=40) (S:=(fun w'=>Below W.heap.size W w')) (T:=T) (k:=18) (D:=D) (by decide) hN hS);clear hI hS hN hC hW hD;go_wp2_with fail;all_goals first|exact HS|exact⟨rfl,HS⟩|rfl
  ·intro D w' hD hW hC hI;have hN:D 40=false:=aAa hC hD 40 (by kernel_rfl);have hS:=hI.pre hN;refine OpTo.wanted ?_ ?_
   kernel_rfl
   have HS:=yH (pAE (c:=40) (S:=(fun w'=>Below W.heap.size W w')) (T:=T) (k:=19) (D:=D) (by decide) hN hS);clear hI hS hN hC hW hD;go_wp2_with fail;all_goals first|exact HS|exact⟨rfl,HS⟩|rfl
  ·intro D w' hD hW hC hI;have hN:D 40=false:=aAa hC hD 40 (by kernel_rfl);have hS:=hI.pre hN;refine OpTo.wanted ?_ ?_
   kernel_rfl
   have hl0:=yM KX.o.lt hS.size;have d0_0:=(KX.o.below hS KX.o.lt).cell 0;have d0_1:=(KX.o.below hS KX.o.lt).cell 1;have d0_2:=(KX.o.below hS KX.o.lt).cell 2;have d0_3:=(KX.o.below hS KX.o.lt).cell 3;have d0_4:=(KX.o.below hS KX.o.lt).cell 4;simp at d0_0 d0_1 d0_2 d0_3 d0_4;have HS:=yH (pAE (c:=40) (S:=(fun w'=>Below W.heap.size W w')) (T:=T) (k:=20) (D:=D) (by decide) hN hS);clear hI hS hN hC hW hD;go_wp2_with fail;all_goals first|exact HS|exact⟨rfl,HS⟩|rfl
  ·intro D w' hD hW hC hI;have hN:D 40=false:=aAa hC hD 40 (by kernel_rfl);have hS:=hI.pre hN;refine OpTo.wanted ?_ ?_
   kernel_rfl
   have HS:=yH (pAE (c:=40) (S:=(fun w'=>Below W.heap.size W w')) (T:=T) (k:=21) (D:=D) (by decide) hN hS);clear hI hS hN hC hW hD;go_wp2_with fail;all_goals first|exact HS|exact⟨rfl,HS⟩|rfl
  ·intro D w' hD hW hC hI;have hN:D 40=false:=aAa hC hD 40 (by kernel_rfl);have hS:=hI.pre hN;refine yO rfl ?_;have HS:=yH (pAE (c:=40) (S:=(fun w'=>Below W.heap.size W w')) (T:=T) (k:=22) (D:=D) (by decide) hN hS);clear hI hS hN hC hW hD;go_wp2_with fail;all_goals first|exact HS|exact⟨rfl,HS⟩|rfl
  ·intro D w' hD hW hC hI;have hN:D 40=false:=aAa hC hD 40 (by kernel_rfl);have hS:=hI.pre hN;refine yO rfl ?_;have HS:=yH (pAE (c:=40) (S:=(fun w'=>Below W.heap.size W w')) (T:=T) (k:=23) (D:=D) (by decide) hN hS);clear hI hS hN hC hW hD;go_wp2_with fail;all_goals first|exact HS|exact⟨rfl,HS⟩|rfl
  ·intro D w' hD hW hC hI;have hN:D 40=false:=aAa hC hD 40 (by kernel_rfl);have hS:=hI.pre hN;refine OpTo.wanted ?_ ?_
   kernel_rfl
   have HS:=yH (pAE (c:=40) (S:=(fun w'=>Below W.heap.size W w')) (T:=T) (k:=24) (D:=D) (by decide) hN hS);clear hI hS hN hC hW hD;go_wp2_with fail;all_goals first|exact HS|exact⟨rfl,HS⟩|rfl
  ·intro D w' hD hW hC hI;have hN:D 40=false:=aAa hC hD 40 (by kernel_rfl);have hS:=hI.pre hN;refine OpTo.wanted ?_ ?_
   kernel_rfl
   have hl0:=yM KX.o.lt hS.size;have d0_0:=(KX.o.below hS KX.o.lt).cell 0;have d0_1:=(KX.o.below hS KX.o.lt).cell 1;have d0_2:=(KX.o.below hS KX.o.lt).cell 2;have d0_3:=(KX.o.below hS KX.o.lt).cell 3;have d0_4:=(KX.o.below hS KX.o.lt).cell 4;simp at d0_0 d0_1 d0_2 d0_3 d0_4;have HS:=yH (pAE (c:=40) (S:=(fun w'=>Below W.heap.size W w')) (T:=T) (k:=25) (D:=D) (by decide) hN hS);clear hI hS hN hC hW hD;go_wp2_with fail;all_goals first|exact HS|exact⟨rfl,HS⟩|rfl
  ·intro D w' hD hW hC hI;have hN:D 40=false:=aAa hC hD 40 (by kernel_rfl);have hS:=hI.pre hN;refine OpTo.wanted ?_ ?_
   kernel_rfl
   have HS:=yH (pAE (c:=40) (S:=(fun w'=>Below W.heap.size W w')) (T:=T) (k:=26) (D:=D) (by decide) hN hS);clear hI hS hN hC hW hD;go_wp2_with fail;all_goals first|exact HS|exact⟨rfl,HS⟩|rfl
  ·intro D w' hD hW hC hI;have hN:D 40=false:=aAa hC hD 40 (by kernel_rfl);have hS:=hI.pre hN;refine OpTo.wanted ?_ ?_
   kernel_rfl
   have hl0:=yM KX.o.lt hS.size;have d0_0:=(KX.o.below hS KX.o.lt).cell 0;have d0_1:=(KX.o.below hS KX.o.lt).cell 1;have d0_2:=(KX.o.below hS KX.o.lt).cell 2;have d0_3:=(KX.o.below hS KX.o.lt).cell 3;have d0_4:=(KX.o.below hS KX.o.lt).cell 4;simp at d0_0 d0_1 d0_2 d0_3 d0_4;have HS:=yH (pAE (c:=40) (S:=(fun w'=>Below W.heap.size W w')) (T:=T) (k:=27) (D:=D) (by decide) hN hS);clear hI hS hN hC hW hD;go_wp2_with fail;all_goals first|exact HS|exact⟨rfl,HS⟩|rfl
  ·intro D w' hD hW hC hI;have hN:D 40=false:=aAa hC hD 40 (by kernel_rfl);have hS:=hI.pre hN;refine OpTo.wanted ?_ ?_
   kernel_rfl
   have HS:=yH (pAE (c:=40) (S:=(fun w'=>Below W.heap.size W w')) (T:=T) (k:=28) (D:=D) (by decide) hN hS);clear hI hS hN hC hW hD;go_wp2_with fail;all_goals first|exact HS|exact⟨rfl,HS⟩|rfl
  ·intro D w' hD hW hC hI;have hN:D 40=false:=aAa hC hD 40 (by kernel_rfl);have hS:=hI.pre hN;refine yO rfl ?_;have HS:=yH (pAE (c:=40) (S:=(fun w'=>Below W.heap.size W w')) (T:=T) (k:=29) (D:=D) (by decide) hN hS);clear hI hS hN hC hW hD;go_wp2_with fail;all_goals first|exact HS|exact⟨rfl,HS⟩|rfl
  ·intro D w' hD hW hC hI;have hN:D 40=false:=aAa hC hD 40 (by kernel_rfl);have hS:=hI.pre hN;refine yO rfl ?_;have HS:=yH (pAE (c:=40) (S:=(fun w'=>Below W.heap.size W w')) (T:=T) (k:=30) (D:=D) (by decide) hN hS);clear hI hS hN hC hW hD;go_wp2_with fail;all_goals first|exact HS|exact⟨rfl,HS⟩|rfl
  ·intro D w' hD hW hC hI;have hN:D 40=false:=aAa hC hD 40 (by kernel_rfl);have hS:=hI.pre hN;refine OpTo.wanted ?_ ?_
   kernel_rfl
   have HS:=yH (pAE (c:=40) (S:=(fun w'=>Below W.heap.size W w')) (T:=T) (k:=31) (D:=D) (by decide) hN hS);clear hI hS hN hC hW hD;go_wp2_with fail;all_goals first|exact HS|exact⟨rfl,HS⟩|rfl
  ·intro D w' hD hW hC hI;have hN:D 40=false:=aAa hC hD 40 (by kernel_rfl);have hS:=hI.pre hN;refine OpTo.wanted ?_ ?_
   kernel_rfl
   have HS:=yH (pAE (c:=40) (S:=(fun w'=>Below W.heap.size W w')) (T:=T) (k:=32) (D:=D) (by decide) hN hS);clear hI hS hN hC hW hD;go_wp2_with fail;all_goals first|exact HS|exact⟨rfl,HS⟩|rfl
  ·intro D w' hD hW hC hI;have hN:D 40=false:=aAa hC hD 40 (by kernel_rfl);have hS:=hI.pre hN;refine OpTo.wanted ?_ ?_
   kernel_rfl
   have hl0:=yM KX.o.lt hS.size;have d0_0:=(KX.o.below hS KX.o.lt).cell 0;have d0_1:=(KX.o.below hS KX.o.lt).cell 1;have d0_2:=(KX.o.below hS KX.o.lt).cell 2;have d0_3:=(KX.o.below hS KX.o.lt).cell 3;have d0_4:=(KX.o.below hS KX.o.lt).cell 4;simp at d0_0 d0_1 d0_2 d0_3 d0_4;have HS:=yH (pAE (c:=40) (S:=(fun w'=>Below W.heap.size W w')) (T:=T) (k:=33) (D:=D) (by decide) hN hS);clear hI hS hN hC hW hD;go_wp2_with fail;all_goals first|exact HS|exact⟨rfl,HS⟩|rfl
  ·intro D w' hD hW hC hI;have hN:D 40=false:=aAa hC hD 40 (by kernel_rfl);have hS:=hI.pre hN;refine OpTo.wanted ?_ ?_
   kernel_rfl
   have HS:=yH (pAE (c:=40) (S:=(fun w'=>Below W.heap.size W w')) (T:=T) (k:=34) (D:=D) (by decide) hN hS);clear hI hS hN hC hW hD;go_wp2_with fail;all_goals first|exact HS|exact⟨rfl,HS⟩|rfl
  ·intro D w' hD hW hC hI;have hN:D 40=false:=aAa hC hD 40 (by kernel_rfl);have hS:=hI.pre hN;refine OpTo.wanted ?_ ?_
   kernel_rfl
   have hl0:=yM KX.o.lt hS.size;have d0_0:=(KX.o.below hS KX.o.lt).cell 0;have d0_1:=(KX.o.below hS KX.o.lt).cell 1;have d0_2:=(KX.o.below hS KX.o.lt).cell 2;have d0_3:=(KX.o.below hS KX.o.lt).cell 3;have d0_4:=(KX.o.below hS KX.o.lt).cell 4;simp at d0_0 d0_1 d0_2 d0_3 d0_4;have HS:=yH (pAE (c:=40) (S:=(fun w'=>Below W.heap.size W w')) (T:=T) (k:=35) (D:=D) (by decide) hN hS);clear hI hS hN hC hW hD;go_wp2_with fail;all_goals first|exact HS|exact⟨rfl,HS⟩|rfl
  ·intro D w' hD hW hC hI;have hN:D 40=false:=aAa hC hD 40 (by kernel_rfl);have hS:=hI.pre hN;refine OpTo.wanted ?_ ?_
   kernel_rfl
   have HS:=yH (pAE (c:=40) (S:=(fun w'=>Below W.heap.size W w')) (T:=T) (k:=36) (D:=D) (by decide) hN hS);clear hI hS hN hC hW hD;go_wp2_with fail;all_goals first|exact HS|exact⟨rfl,HS⟩|rfl
  ·intro D w' hD hW hC hI;have hN:D 40=false:=aAa hC hD 40 (by kernel_rfl);have hS:=hI.pre hN;refine OpTo.wanted ?_ ?_
   kernel_rfl
   have hl0:=yM KX.o.lt hS.size;have d0_0:=(KX.o.below hS KX.o.lt).cell 0;have d0_1:=(KX.o.below hS KX.o.lt).cell 1;have d0_2:=(KX.o.below hS KX.o.lt).cell 2;have d0_3:=(KX.o.below hS KX.o.lt).cell 3;have d0_4:=(KX.o.below hS KX.o.lt).cell 4;simp at d0_0 d0_1 d0_2 d0_3 d0_4;have HS:=yH (pAE (c:=40) (S:=(fun w'=>Below W.heap.size W w')) (T:=T) (k:=37) (D:=D) (by decide) hN hS);clear hI hS hN hC hW hD;go_wp2_with fail;all_goals first|exact HS|exact⟨rfl,HS⟩|rfl
  ·intro D w' hD hW hC hI;have hN:D 40=false:=aAa hC hD 40 (by kernel_rfl);have hS:=hI.pre hN;refine OpTo.wanted ?_ ?_
   kernel_rfl
   have HS:=yH (pAE (c:=40) (S:=(fun w'=>Below W.heap.size W w')) (T:=T) (k:=38) (D:=D) (by decide) hN hS);clear hI hS hN hC hW hD;go_wp2_with fail;all_goals first|exact HS|exact⟨rfl,HS⟩|rfl
  ·intro D w' hD hW hC hI;have hN:D 40=false:=aAa hC hD 40 (by kernel_rfl);have hS:=hI.pre hN;refine OpTo.wanted ?_ ?_
   kernel_rfl
   have hl0:=yM KX.o.lt hS.size;have d0_0:=(KX.o.below hS KX.o.lt).cell 0;have d0_1:=(KX.o.below hS KX.o.lt).cell 1;have d0_2:=(KX.o.below hS KX.o.lt).cell 2;have d0_3:=(KX.o.below hS KX.o.lt).cell 3;have d0_4:=(KX.o.below hS KX.o.lt).cell 4;simp at d0_0 d0_1 d0_2 d0_3 d0_4;have HS:=yH (pAE (c:=40) (S:=(fun w'=>Below W.heap.size W w')) (T:=T) (k:=39) (D:=D) (by decide) hN hS);clear hI hS hN hC hW hD;go_wp2_with fail;all_goals first|exact HS|exact⟨rfl,HS⟩|rfl
  ·intro D w' hD hW hC hI;have hN:D 40=false:=hD;have hS:=hI.pre hN;refine OpTo.wanted ?_ ?_
   kernel_rfl
   have HC:=yH (CT.o w' hS);clear hI hS hN hC hW hD;go_wp2_with fail;refine HC.o.mono ?_;rintro e w'' ⟨rfl,hT⟩;exact⟨rfl,Once.done hT⟩
  ·intro D w' hD hW hC hI;have hP:D 40=true:=aAk hC hW (by kernel_rfl);have hT:=hI.post hP;refine OpTo.wanted ?_ ?_
   kernel_rfl
   have HS:=yH (pAF (c:=40) (S:=(fun w'=>Below W.heap.size W w')) (T:=T) (k:=41) (D:=D) (by decide) hP hT);clear hI hT hP hC hW hD;go_wp2_with fail;all_goals first|exact HS|exact⟨rfl,HS⟩|rfl
  intro D w' hD hW hC hI;have hP:D 40=true:=aAk hC hW (by kernel_rfl);have hT:=hI.post hP;refine yO rfl ?_;have HS:=yH (pAF (c:=40) (S:=(fun w'=>Below W.heap.size W w')) (T:=T) (k:=42) (D:=D) (by decide) hP hT);clear hI hT hP hC hW hD;go_wp2_with fail;all_goals first|exact HS|exact⟨rfl,HS⟩|rfl
 intro D w6 hall hI;exact HQ.o w6 (hI.post (hall 40 (by decide)))
theorem rof_lt6{W:World}{X G bl ol n lcap:Nat}{i:Int}{x y:Ln}(KX:Hid (Blk W X #[.int .u8 x.cr,.int .u8 x.de,.int .u8 x.cu,.int .i64 x.li,.int .i64 x.db] 71))(FX:Hid x.Fits)(FY:Hid y.Fits)(HBl:Hid (bl<W.heap.size))(HY0:Hid (W.cell? ⟨bl,ol+(i.toNat - 1)*5,none⟩=some (.int .u8 y.cr)))(HY1:Hid (W.cell? ⟨bl,ol+(i.toNat - 1)*5+1,none⟩=some (.int .u8 y.de)))(HY2:Hid (W.cell? ⟨bl,ol+(i.toNat - 1)*5+2,none⟩=some (.int .u8 y.cu)))(HY3:Hid (W.cell? ⟨bl,ol+(i.toNat - 1)*5+3,none⟩=some (.int .i64 y.li)))(HY4:Hid (W.cell? ⟨bl,ol+(i.toNat - 1)*5+4,none⟩=some (.int .i64 y.db)))(i0:0<i)(i1:i<(n:Int))(hn:n≤100000000)(s0:decide (0<i)=true)(c1:decide (x.rank≤y.rank)=false)(c2:decide (x.li<1)=false)(c3:decide (x.db<0)=false)(c4:decide (x.li<x.db)=false){T:World→Prop}(CT:Hid (∀w',Below W.heap.size W w'→Calls Tryz.prog 82 #[.pointer (some ⟨G,0,none⟩),.int .u8 x.cr,.int .u8 x.de,.int .u8 x.cu,.int .i64 x.li] w' fun e w''=>e=.returned (.int .i64 0)∧T w'')){Q:Exit→Act→World→Prop}{c0 c2 c3 c4 c5 c7 c10 c11 c12 c13 c14 c15 c16 c17 c18 c19 c20 c21 c22 c23 c24 c25 c26 c27 c28 c29 c30 c31 c32 c33 c34 c35 c36 c37 c38 c39 c40 c41 c42 c43 c44 c45 c46 c47 c48 c49 c50 c51 c52 c53 c54 c55 c56 c57 c58 c59 c60 c61 c62 c63 c64 c65 c66 c67 c68 c69 c70 c71 c72 c73 c74 c75 c76 c77 c78 c79 c80 c81 c82 c83 c84 c85 c86 c87 c88 c89 c90 c91 c92 c93 c94 c95 c96 c97 c98 c99 c100:Value}
  (hq:∀w6,T w6→Q .normal ⟨#[c0,(.slice (some ⟨bl,ol,none⟩) n lcap),c2,c3,c4,c5,(.pointer (some ⟨G,0,none⟩)),c7,(.int .i64 i),(.pointer (some ⟨X,0,none⟩)),c10,c11,c12,c13,c14,c15,c16,c17,c18,c19,c20,c21,c22,c23,c24,c25,c26,c27,c28,c29,c30,c31,c32,c33,c34,c35,c36,c37,c38,c39,c40,c41,c42,c43,c44,c45,c46,c47,c48,c49,c50,c51,c52,c53,(.int .i64 i),(.bool true),(.bool true),(.agg #[.int .u8 x.cr,.int .u8 x.de,.int .u8 x.cu,.int .i64 x.li,.int .i64 x.db]),(.int .i64 x.rank),(.slice (some ⟨bl,ol,none⟩) n lcap),(.int .i64 i),(.int .i64 (i - 1)),(.pointer (some ⟨bl,ol+(i.toNat - 1)*5,none⟩)),(.agg #[.int .u8 y.cr,.int .u8 y.de,.int .u8 y.cu,.int .i64 y.li,.int .i64 y.db]),(.int .i64 y.rank),(.bool false),(.bool false),(.bool false),(.pointer (some ⟨X,3,none⟩)),(.int .i64 x.li),(.bool false),(.bool false),(.bool false),(.pointer (some ⟨X,4,none⟩)),(.int .i64 x.db),(.bool false),(.bool false),(.bool false),(.pointer (some ⟨X,4,none⟩)),(.int .i64 x.db),(.pointer (some ⟨X,3,none⟩)),(.int .i64 x.li),(.bool false),(.bool false),(.bool false),(.pointer (some ⟨G,0,none⟩)),(.pointer (some ⟨X,0,none⟩)),(.int .u8 x.cr),(.pointer (some ⟨X,1,none⟩)),(.int .u8 x.de),(.pointer (some ⟨X,2,none⟩)),(.int .u8 x.cu),(.pointer (some ⟨X,3,none⟩)),(.int .i64 x.li),(.int .i64 0),(.bool false),(.bool false),c97,c98,c99,c100],[]⟩ w6):
  Code.wp Tryz.prog (((Tryz.f68.body).bind (aAr 13)).getD .skip) Q ⟨#[c0,(.slice (some ⟨bl,ol,none⟩) n lcap),c2,c3,c4,c5,(.pointer (some ⟨G,0,none⟩)),c7,(.int .i64 i),(.pointer (some ⟨X,0,none⟩)),c10,c11,c12,c13,c14,c15,c16,c17,c18,c19,c20,c21,c22,c23,c24,c25,c26,c27,c28,c29,c30,c31,c32,c33,c34,c35,c36,c37,c38,c39,c40,c41,c42,c43,c44,c45,c46,c47,c48,c49,c50,c51,c52,c53,c54,c55,c56,c57,c58,c59,c60,c61,c62,c63,c64,c65,c66,c67,c68,c69,c70,c71,c72,c73,c74,c75,c76,c77,c78,c79,c80,c81,c82,c83,c84,c85,c86,c87,c88,c89,c90,c91,c92,c93,c94,c95,c96,c97,c98,c99,c100],[]⟩ W:=by
 conv=>arg 2;whnf
 have HQ:=yH hq;clear hq
 refine aA4 (by kernel_rfl) [(.int .i64 i),(.bool true),(.bool true),(.agg #[.int .u8 x.cr,.int .u8 x.de,.int .u8 x.cu,.int .i64 x.li,.int .i64 x.db]),(.int .i64 x.rank),(.slice (some ⟨bl,ol,none⟩) n lcap),(.int .i64 i),(.int .i64 (i - 1)),(.pointer (some ⟨bl,ol+(i.toNat - 1)*5,none⟩)),(.agg #[.int .u8 y.cr,.int .u8 y.de,.int .u8 y.cu,.int .i64 y.li,.int .i64 y.db]),(.int .i64 y.rank),(.bool false),(.bool false),(.bool false),(.pointer (some ⟨X,3,none⟩)),(.int .i64 x.li),(.bool false),(.bool false),(.bool false),(.pointer (some ⟨X,4,none⟩)),(.int .i64 x.db),(.bool false),(.bool false),(.bool false),(.pointer (some ⟨X,4,none⟩)),(.int .i64 x.db),(.pointer (some ⟨X,3,none⟩)),(.int .i64 x.li),(.bool false),(.bool false),(.bool false),(.pointer (some ⟨G,0,none⟩)),(.pointer (some ⟨X,0,none⟩)),(.int .u8 x.cr),(.pointer (some ⟨X,1,none⟩)),(.int .u8 x.de),(.pointer (some ⟨X,2,none⟩)),(.int .u8 x.cu),(.pointer (some ⟨X,3,none⟩)),(.int .i64 x.li),(.int .i64 0),(.bool false),(.bool false)]
  (Once 40 (fun w'=>Below W.heap.size W w') T) (by kernel_rfl) (Once.start yZ.drew) ?_
 intro af haf;simp only[yG,List.append_eq,List.cons_append,List.nil_append,puts,Act.put,yA,yC,yF,yD,yE]at haf;subst haf;refine⟨?_,?_⟩
 ·simp only[yG,List.append_eq,List.cons_append,List.nil_append,aCd];refine⟨?_,?_,?_,?_,?_,?_,?_,?_,?_,?_,?_,?_,?_,?_,?_,?_,?_,?_,?_,?_,?_,?_,?_,?_,?_,?_,?_,?_,?_,?_,?_,?_,?_,?_,?_,?_,?_,?_,?_,?_,?_,?_,?_,trivial⟩
  ·intro D w' hD hW hC hI;have hN:D 40=false:=aAa hC hD 40 (by kernel_rfl);have hS:=hI.pre hN;refine yO rfl ?_;have HS:=yH (pAE (c:=40) (S:=(fun w'=>Below W.heap.size W w')) (T:=T) (k:=0) (D:=D) (by decide) hN hS);clear hI hS hN hC hW hD;go_wp2_with fail;all_goals first|exact HS|exact⟨rfl,HS⟩|rfl
  ·intro D w' hD hW hC hI;have hN:D 40=false:=aAa hC hD 40 (by kernel_rfl);have hS:=hI.pre hN;refine yO rfl ?_;have HS:=yH (pAE (c:=40) (S:=(fun w'=>Below W.heap.size W w')) (T:=T) (k:=1) (D:=D) (by decide) hN hS);clear hI hS hN hC hW hD;go_wp2_with fail;all_goals first|exact HS|exact⟨rfl,HS⟩|rfl
  ·intro D w' hD hW hC hI;have hN:D 40=false:=aAa hC hD 40 (by kernel_rfl);have hS:=hI.pre hN;refine yO rfl ?_;have HS:=yH (pAE (c:=40) (S:=(fun w'=>Below W.heap.size W w')) (T:=T) (k:=2) (D:=D) (by decide) hN hS);clear hI hS hN hC hW hD;go_wp2_with fail;all_goals first|exact HS|exact⟨rfl,HS⟩|rfl
  ·intro D w' hD hW hC hI;have hN:D 40=false:=aAa hC hD 40 (by kernel_rfl);have hS:=hI.pre hN;refine OpTo.wanted ?_ ?_
   kernel_rfl
   have hl0:=yM KX.o.lt hS.size;have d0_0:=(KX.o.below hS KX.o.lt).cell 0;have d0_1:=(KX.o.below hS KX.o.lt).cell 1;have d0_2:=(KX.o.below hS KX.o.lt).cell 2;have d0_3:=(KX.o.below hS KX.o.lt).cell 3;have d0_4:=(KX.o.below hS KX.o.lt).cell 4;simp at d0_0 d0_1 d0_2 d0_3 d0_4;have HS:=yH (pAE (c:=40) (S:=(fun w'=>Below W.heap.size W w')) (T:=T) (k:=3) (D:=D) (by decide) hN hS);clear hI hS hN hC hW hD;go_wp2_with fail;all_goals first|exact HS|exact⟨rfl,HS⟩|rfl
  ·intro D w' hD hW hC hI;have hN:D 40=false:=aAa hC hD 40 (by kernel_rfl);have hS:=hI.pre hN;refine OpTo.wanted ?_ ?_
   kernel_rfl
   have HS:=yH hS;have HN:=yH hN;have HC:=yH (aBj x w' FX.o);clear hI hS hN hC hW hD;go_wp2_with fail;refine HC.o.mono ?_;rintro e w'' ⟨rfl,hb2⟩;exact⟨rfl,pAE (k:=4) (by decide) HN.o (andB HS.o hb2)⟩
  ·intro D w' hD hW hC hI;have hN:D 40=false:=aAa hC hD 40 (by kernel_rfl);have hS:=hI.pre hN;refine OpTo.wanted ?_ ?_
   kernel_rfl
   have HS:=yH (pAE (c:=40) (S:=(fun w'=>Below W.heap.size W w')) (T:=T) (k:=5) (D:=D) (by decide) hN hS);clear hI hS hN hC hW hD;go_wp2_with fail;all_goals first|exact HS|exact⟨rfl,HS⟩|rfl
  ·intro D w' hD hW hC hI;have hN:D 40=false:=aAa hC hD 40 (by kernel_rfl);have hS:=hI.pre hN;refine OpTo.wanted ?_ ?_
   kernel_rfl
   have HS:=yH (pAE (c:=40) (S:=(fun w'=>Below W.heap.size W w')) (T:=T) (k:=6) (D:=D) (by decide) hN hS);clear hI hS hN hC hW hD;go_wp2_with fail;all_goals first|exact HS|exact⟨rfl,HS⟩|rfl
  ·intro D w' hD hW hC hI;have hN:D 40=false:=aAa hC hD 40 (by kernel_rfl);have hS:=hI.pre hN;refine OpTo.wanted ?_ ?_
   kernel_rfl
   have HS:=yH (pAE (c:=40) (S:=(fun w'=>Below W.heap.size W w')) (T:=T) (k:=7) (D:=D) (by decide) hN hS);clear hI hS hN hC hW hD;go_wp2_with fail;all_goals first|exact HS|exact⟨rfl,HS⟩|rfl
  ·intro D w' hD hW hC hI;have hN:D 40=false:=aAa hC hD 40 (by kernel_rfl);have hS:=hI.pre hN;refine OpTo.wanted ?_ ?_
   kernel_rfl
   have HS:=yH (pAE (c:=40) (S:=(fun w'=>Below W.heap.size W w')) (T:=T) (k:=8) (D:=D) (by decide) hN hS);clear hI hS hN hC hW hD;go_wp2_with fail;all_goals first|exact HS|exact⟨rfl,HS⟩|rfl
  ·intro D w' hD hW hC hI;have hN:D 40=false:=aAa hC hD 40 (by kernel_rfl);have hS:=hI.pre hN;refine OpTo.wanted ?_ ?_
   kernel_rfl
   have hlt:=yM HBl.o hS.size;have e0:=(hS.cell (p:=⟨bl,ol+(i.toNat - 1)*5,none⟩) HBl.o).trans HY0.o;have e1:=(hS.cell (p:=⟨bl,ol+(i.toNat - 1)*5+1,none⟩) HBl.o).trans HY1.o;have e2:=(hS.cell (p:=⟨bl,ol+(i.toNat - 1)*5+2,none⟩) HBl.o).trans HY2.o;have e3:=(hS.cell (p:=⟨bl,ol+(i.toNat - 1)*5+3,none⟩) HBl.o).trans HY3.o;have e4:=(hS.cell (p:=⟨bl,ol+(i.toNat - 1)*5+4,none⟩) HBl.o).trans HY4.o;have HS:=yH (pAE (c:=40) (S:=(fun w'=>Below W.heap.size W w')) (T:=T) (k:=9) (D:=D) (by decide) hN hS);clear hI hS hN hC hW hD;go_wp2_with fail;all_goals first|exact HS|exact⟨rfl,HS⟩|rfl
  ·intro D w' hD hW hC hI;have hN:D 40=false:=aAa hC hD 40 (by kernel_rfl);have hS:=hI.pre hN;refine OpTo.wanted ?_ ?_
   kernel_rfl
   have HS:=yH hS;have HN:=yH hN;have HC:=yH (aBj y w' FY.o);clear hI hS hN hC hW hD;go_wp2_with fail;refine HC.o.mono ?_;rintro e w'' ⟨rfl,hb2⟩;exact⟨rfl,pAE (k:=10) (by decide) HN.o (andB HS.o hb2)⟩
  ·intro D w' hD hW hC hI;have hN:D 40=false:=aAa hC hD 40 (by kernel_rfl);have hS:=hI.pre hN;refine OpTo.wanted ?_ ?_
   kernel_rfl
   have HS:=yH (pAE (c:=40) (S:=(fun w'=>Below W.heap.size W w')) (T:=T) (k:=11) (D:=D) (by decide) hN hS);clear hI hS hN hC hW hD;go_wp2_with fail;all_goals first|exact HS|exact⟨rfl,HS⟩|rfl
  ·intro D w' hD hW hC hI;have hN:D 40=false:=aAa hC hD 40 (by kernel_rfl);have hS:=hI.pre hN;refine yO rfl ?_;have HS:=yH (pAE (c:=40) (S:=(fun w'=>Below W.heap.size W w')) (T:=T) (k:=12) (D:=D) (by decide) hN hS);clear hI hS hN hC hW hD;go_wp2_with fail;all_goals first|exact HS|exact⟨rfl,HS⟩|rfl
  ·intro D w' hD hW hC hI;have hN:D 40=false:=aAa hC hD 40 (by kernel_rfl);have hS:=hI.pre hN;refine yO rfl ?_;have HS:=yH (pAE (c:=40) (S:=(fun w'=>Below W.heap.size W w')) (T:=T) (k:=13) (D:=D) (by decide) hN hS);clear hI hS hN hC hW hD;go_wp2_with fail;all_goals first|exact HS|exact⟨rfl,HS⟩|rfl
  ·intro D w' hD hW hC hI;have hN:D 40=false:=aAa hC hD 40 (by kernel_rfl);have hS:=hI.pre hN;refine OpTo.wanted ?_ ?_
   kernel_rfl
   have HS:=yH (pAE (c:=40) (S:=(fun w'=>Below W.heap.size W w')) (T:=T) (k:=14) (D:=D) (by decide) hN hS);clear hI hS hN hC hW hD;go_wp2_with fail;all_goals first|exact HS|exact⟨rfl,HS⟩|rfl
  ·intro D w' hD hW hC hI;have hN:D 40=false:=aAa hC hD 40 (by kernel_rfl);have hS:=hI.pre hN;refine OpTo.wanted ?_ ?_
   kernel_rfl
   have hl0:=yM KX.o.lt hS.size;have d0_0:=(KX.o.below hS KX.o.lt).cell 0;have d0_1:=(KX.o.below hS KX.o.lt).cell 1;have d0_2:=(KX.o.below hS KX.o.lt).cell 2;have d0_3:=(KX.o.below hS KX.o.lt).cell 3;have d0_4:=(KX.o.below hS KX.o.lt).cell 4;simp at d0_0 d0_1 d0_2 d0_3 d0_4;have HS:=yH (pAE (c:=40) (S:=(fun w'=>Below W.heap.size W w')) (T:=T) (k:=15) (D:=D) (by decide) hN hS);clear hI hS hN hC hW hD;go_wp2_with fail;all_goals first|exact HS|exact⟨rfl,HS⟩|rfl
  ·intro D w' hD hW hC hI;have hN:D 40=false:=aAa hC hD 40 (by kernel_rfl);have hS:=hI.pre hN;refine OpTo.wanted ?_ ?_
   kernel_rfl
   have HS:=yH (pAE (c:=40) (S:=(fun w'=>Below W.heap.size W w')) (T:=T) (k:=16) (D:=D) (by decide) hN hS);clear hI hS hN hC hW hD;go_wp2_with fail;all_goals first|exact HS|exact⟨rfl,HS⟩|rfl
  ·intro D w' hD hW hC hI;have hN:D 40=false:=aAa hC hD 40 (by kernel_rfl);have hS:=hI.pre hN;refine yO rfl ?_;have HS:=yH (pAE (c:=40) (S:=(fun w'=>Below W.heap.size W w')) (T:=T) (k:=17) (D:=D) (by decide) hN hS);clear hI hS hN hC hW hD;go_wp2_with fail;all_goals first|exact HS|exact⟨rfl,HS⟩|rfl
  ·intro D w' hD hW hC hI;have hN:D 40=false:=aAa hC hD 40 (by kernel_rfl);have hS:=hI.pre hN;refine yO rfl ?_;have HS:=yH (pAE (c:=40) (S:=(fun w'=>Below W.heap.size W w')) (T:=T) (k:=18) (D:=D) (by decide) hN hS);clear hI hS hN hC hW hD;go_wp2_with fail;all_goals first|exact HS|exact⟨rfl,HS⟩|rfl
  ·intro D w' hD hW hC hI;have hN:D 40=false:=aAa hC hD 40 (by kernel_rfl);have hS:=hI.pre hN;refine OpTo.wanted ?_ ?_
   kernel_rfl
   have HS:=yH (pAE (c:=40) (S:=(fun w'=>Below W.heap.size W w')) (T:=T) (k:=19) (D:=D) (by decide) hN hS);clear hI hS hN hC hW hD;go_wp2_with fail;all_goals first|exact HS|exact⟨rfl,HS⟩|rfl
  ·intro D w' hD hW hC hI;have hN:D 40=false:=aAa hC hD 40 (by kernel_rfl);have hS:=hI.pre hN;refine OpTo.wanted ?_ ?_
   kernel_rfl
   have hl0:=yM KX.o.lt hS.size;have d0_0:=(KX.o.below hS KX.o.lt).cell 0;have d0_1:=(KX.o.below hS KX.o.lt).cell 1;have d0_2:=(KX.o.below hS KX.o.lt).cell 2;have d0_3:=(KX.o.below hS KX.o.lt).cell 3;have d0_4:=(KX.o.below hS KX.o.lt).cell 4;simp at d0_0 d0_1 d0_2 d0_3 d0_4;have HS:=yH (pAE (c:=40) (S:=(fun w'=>Below W.heap.size W w')) (T:=T) (k:=20) (D:=D) (by decide) hN hS);clear hI hS hN hC hW hD;go_wp2_with fail;all_goals first|exact HS|exact⟨rfl,HS⟩|rfl
  ·intro D w' hD hW hC hI;have hN:D 40=false:=aAa hC hD 40 (by kernel_rfl);have hS:=hI.pre hN;refine OpTo.wanted ?_ ?_
   kernel_rfl
   have HS:=yH (pAE (c:=40) (S:=(fun w'=>Below W.heap.size W w')) (T:=T) (k:=21) (D:=D) (by decide) hN hS);clear hI hS hN hC hW hD;go_wp2_with fail;all_goals first|exact HS|exact⟨rfl,HS⟩|rfl
  ·intro D w' hD hW hC hI;have hN:D 40=false:=aAa hC hD 40 (by kernel_rfl);have hS:=hI.pre hN;refine yO rfl ?_;have HS:=yH (pAE (c:=40) (S:=(fun w'=>Below W.heap.size W w')) (T:=T) (k:=22) (D:=D) (by decide) hN hS);clear hI hS hN hC hW hD;go_wp2_with fail;all_goals first|exact HS|exact⟨rfl,HS⟩|rfl
  ·intro D w' hD hW hC hI;have hN:D 40=false:=aAa hC hD 40 (by kernel_rfl);have hS:=hI.pre hN;refine yO rfl ?_;have HS:=yH (pAE (c:=40) (S:=(fun w'=>Below W.heap.size W w')) (T:=T) (k:=23) (D:=D) (by decide) hN hS);clear hI hS hN hC hW hD;go_wp2_with fail;all_goals first|exact HS|exact⟨rfl,HS⟩|rfl
  ·intro D w' hD hW hC hI;have hN:D 40=false:=aAa hC hD 40 (by kernel_rfl);have hS:=hI.pre hN;refine OpTo.wanted ?_ ?_
   kernel_rfl
   have HS:=yH (pAE (c:=40) (S:=(fun w'=>Below W.heap.size W w')) (T:=T) (k:=24) (D:=D) (by decide) hN hS);clear hI hS hN hC hW hD;go_wp2_with fail;all_goals first|exact HS|exact⟨rfl,HS⟩|rfl
  ·intro D w' hD hW hC hI;have hN:D 40=false:=aAa hC hD 40 (by kernel_rfl);have hS:=hI.pre hN;refine OpTo.wanted ?_ ?_
   kernel_rfl
   have hl0:=yM KX.o.lt hS.size;have d0_0:=(KX.o.below hS KX.o.lt).cell 0;have d0_1:=(KX.o.below hS KX.o.lt).cell 1;have d0_2:=(KX.o.below hS KX.o.lt).cell 2;have d0_3:=(KX.o.below hS KX.o.lt).cell 3;have d0_4:=(KX.o.below hS KX.o.lt).cell 4;simp at d0_0 d0_1 d0_2 d0_3 d0_4;have HS:=yH (pAE (c:=40) (S:=(fun w'=>Below W.heap.size W w')) (T:=T) (k:=25) (D:=D) (by decide) hN hS);clear hI hS hN hC hW hD;go_wp2_with fail;all_goals first|exact HS|exact⟨rfl,HS⟩|rfl
  ·intro D w' hD hW hC hI;have hN:D 40=false:=aAa hC hD 40 (by kernel_rfl);have hS:=hI.pre hN;refine OpTo.wanted ?_ ?_
   kernel_rfl
   have HS:=yH (pAE (c:=40) (S:=(fun w'=>Below W.heap.size W w')) (T:=T) (k:=26) (D:=D) (by decide) hN hS);clear hI hS hN hC hW hD;go_wp2_with fail;all_goals first|exact HS|exact⟨rfl,HS⟩|rfl
  ·intro D w' hD hW hC hI;have hN:D 40=false:=aAa hC hD 40 (by kernel_rfl);have hS:=hI.pre hN;refine OpTo.wanted ?_ ?_
   kernel_rfl
   have hl0:=yM KX.o.lt hS.size;have d0_0:=(KX.o.below hS KX.o.lt).cell 0;have d0_1:=(KX.o.below hS KX.o.lt).cell 1;have d0_2:=(KX.o.below hS KX.o.lt).cell 2;have d0_3:=(KX.o.below hS KX.o.lt).cell 3;have d0_4:=(KX.o.below hS KX.o.lt).cell 4;simp at d0_0 d0_1 d0_2 d0_3 d0_4;have HS:=yH (pAE (c:=40) (S:=(fun w'=>Below W.heap.size W w')) (T:=T) (k:=27) (D:=D) (by decide) hN hS);clear hI hS hN hC hW hD;go_wp2_with fail;all_goals first|exact HS|exact⟨rfl,HS⟩|rfl
  ·intro D w' hD hW hC hI;have hN:D 40=false:=aAa hC hD 40 (by kernel_rfl);have hS:=hI.pre hN;refine OpTo.wanted ?_ ?_
   kernel_rfl
   have HS:=yH (pAE (c:=40) (S:=(fun w'=>Below W.heap.size W w')) (T:=T) (k:=28) (D:=D) (by decide) hN hS);clear hI hS hN hC hW hD;go_wp2_with fail;all_goals first|exact HS|exact⟨rfl,HS⟩|rfl
  ·intro D w' hD hW hC hI;have hN:D 40=false:=aAa hC hD 40 (by kernel_rfl);have hS:=hI.pre hN;refine yO rfl ?_;have HS:=yH (pAE (c:=40) (S:=(fun w'=>Below W.heap.size W w')) (T:=T) (k:=29) (D:=D) (by decide) hN hS);clear hI hS hN hC hW hD;go_wp2_with fail;all_goals first|exact HS|exact⟨rfl,HS⟩|rfl
  ·intro D w' hD hW hC hI;have hN:D 40=false:=aAa hC hD 40 (by kernel_rfl);have hS:=hI.pre hN;refine yO rfl ?_;have HS:=yH (pAE (c:=40) (S:=(fun w'=>Below W.heap.size W w')) (T:=T) (k:=30) (D:=D) (by decide) hN hS);clear hI hS hN hC hW hD;go_wp2_with fail;all_goals first|exact HS|exact⟨rfl,HS⟩|rfl
  ·intro D w' hD hW hC hI;have hN:D 40=false:=aAa hC hD 40 (by kernel_rfl);have hS:=hI.pre hN;refine OpTo.wanted ?_ ?_
   kernel_rfl
   have HS:=yH (pAE (c:=40) (S:=(fun w'=>Below W.heap.size W w')) (T:=T) (k:=31) (D:=D) (by decide) hN hS);clear hI hS hN hC hW hD;go_wp2_with fail;all_goals first|exact HS|exact⟨rfl,HS⟩|rfl
  ·intro D w' hD hW hC hI;have hN:D 40=false:=aAa hC hD 40 (by kernel_rfl);have hS:=hI.pre hN;refine OpTo.wanted ?_ ?_
   kernel_rfl
   have HS:=yH (pAE (c:=40) (S:=(fun w'=>Below W.heap.size W w')) (T:=T) (k:=32) (D:=D) (by decide) hN hS);clear hI hS hN hC hW hD;go_wp2_with fail;all_goals first|exact HS|exact⟨rfl,HS⟩|rfl
  ·intro D w' hD hW hC hI;have hN:D 40=false:=aAa hC hD 40 (by kernel_rfl);have hS:=hI.pre hN;refine OpTo.wanted ?_ ?_
   kernel_rfl
   have hl0:=yM KX.o.lt hS.size;have d0_0:=(KX.o.below hS KX.o.lt).cell 0;have d0_1:=(KX.o.below hS KX.o.lt).cell 1;have d0_2:=(KX.o.below hS KX.o.lt).cell 2;have d0_3:=(KX.o.below hS KX.o.lt).cell 3;have d0_4:=(KX.o.below hS KX.o.lt).cell 4;simp at d0_0 d0_1 d0_2 d0_3 d0_4;have HS:=yH (pAE (c:=40) (S:=(fun w'=>Below W.heap.size W w')) (T:=T) (k:=33) (D:=D) (by decide) hN hS);clear hI hS hN hC hW hD;go_wp2_with fail;all_goals first|exact HS|exact⟨rfl,HS⟩|rfl
  ·intro D w' hD hW hC hI;have hN:D 40=false:=aAa hC hD 40 (by kernel_rfl);have hS:=hI.pre hN;refine OpTo.wanted ?_ ?_
   kernel_rfl
   have HS:=yH (pAE (c:=40) (S:=(fun w'=>Below W.heap.size W w')) (T:=T) (k:=34) (D:=D) (by decide) hN hS);clear hI hS hN hC hW hD;go_wp2_with fail;all_goals first|exact HS|exact⟨rfl,HS⟩|rfl
  ·intro D w' hD hW hC hI;have hN:D 40=false:=aAa hC hD 40 (by kernel_rfl);have hS:=hI.pre hN;refine OpTo.wanted ?_ ?_
   kernel_rfl
   have hl0:=yM KX.o.lt hS.size;have d0_0:=(KX.o.below hS KX.o.lt).cell 0;have d0_1:=(KX.o.below hS KX.o.lt).cell 1;have d0_2:=(KX.o.below hS KX.o.lt).cell 2;have d0_3:=(KX.o.below hS KX.o.lt).cell 3;have d0_4:=(KX.o.below hS KX.o.lt).cell 4;simp at d0_0 d0_1 d0_2 d0_3 d0_4;have HS:=yH (pAE (c:=40) (S:=(fun w'=>Below W.heap.size W w')) (T:=T) (k:=35) (D:=D) (by decide) hN hS);clear hI hS hN hC hW hD;go_wp2_with fail;all_goals first|exact HS|exact⟨rfl,HS⟩|rfl
  ·intro D w' hD hW hC hI;have hN:D 40=false:=aAa hC hD 40 (by kernel_rfl);have hS:=hI.pre hN;refine OpTo.wanted ?_ ?_
   kernel_rfl
   have HS:=yH (pAE (c:=40) (S:=(fun w'=>Below W.heap.size W w')) (T:=T) (k:=36) (D:=D) (by decide) hN hS);clear hI hS hN hC hW hD;go_wp2_with fail;all_goals first|exact HS|exact⟨rfl,HS⟩|rfl
  ·intro D w' hD hW hC hI;have hN:D 40=false:=aAa hC hD 40 (by kernel_rfl);have hS:=hI.pre hN;refine OpTo.wanted ?_ ?_
   kernel_rfl
   have hl0:=yM KX.o.lt hS.size;have d0_0:=(KX.o.below hS KX.o.lt).cell 0;have d0_1:=(KX.o.below hS KX.o.lt).cell 1;have d0_2:=(KX.o.below hS KX.o.lt).cell 2;have d0_3:=(KX.o.below hS KX.o.lt).cell 3;have d0_4:=(KX.o.below hS KX.o.lt).cell 4;simp at d0_0 d0_1 d0_2 d0_3 d0_4;have HS:=yH (pAE (c:=40) (S:=(fun w'=>Below W.heap.size W w')) (T:=T) (k:=37) (D:=D) (by decide) hN hS);clear hI hS hN hC hW hD;go_wp2_with fail;all_goals first|exact HS|exact⟨rfl,HS⟩|rfl
  ·intro D w' hD hW hC hI;have hN:D 40=false:=aAa hC hD 40 (by kernel_rfl);have hS:=hI.pre hN;refine OpTo.wanted ?_ ?_
   kernel_rfl
   have HS:=yH (pAE (c:=40) (S:=(fun w'=>Below W.heap.size W w')) (T:=T) (k:=38) (D:=D) (by decide) hN hS);clear hI hS hN hC hW hD;go_wp2_with fail;all_goals first|exact HS|exact⟨rfl,HS⟩|rfl
  ·intro D w' hD hW hC hI;have hN:D 40=false:=aAa hC hD 40 (by kernel_rfl);have hS:=hI.pre hN;refine OpTo.wanted ?_ ?_
   kernel_rfl
   have hl0:=yM KX.o.lt hS.size;have d0_0:=(KX.o.below hS KX.o.lt).cell 0;have d0_1:=(KX.o.below hS KX.o.lt).cell 1;have d0_2:=(KX.o.below hS KX.o.lt).cell 2;have d0_3:=(KX.o.below hS KX.o.lt).cell 3;have d0_4:=(KX.o.below hS KX.o.lt).cell 4;simp at d0_0 d0_1 d0_2 d0_3 d0_4;have HS:=yH (pAE (c:=40) (S:=(fun w'=>Below W.heap.size W w')) (T:=T) (k:=39) (D:=D) (by decide) hN hS);clear hI hS hN hC hW hD;go_wp2_with fail;all_goals first|exact HS|exact⟨rfl,HS⟩|rfl
  ·intro D w' hD hW hC hI;have hN:D 40=false:=hD;have hS:=hI.pre hN;refine OpTo.wanted ?_ ?_
   kernel_rfl
   have HC:=yH (CT.o w' hS);clear hI hS hN hC hW hD;go_wp2_with fail;refine HC.o.mono ?_;rintro e w'' ⟨rfl,hT⟩;exact⟨rfl,Once.done hT⟩
  ·intro D w' hD hW hC hI;have hP:D 40=true:=aAk hC hW (by kernel_rfl);have hT:=hI.post hP;refine OpTo.wanted ?_ ?_
   kernel_rfl
   have HS:=yH (pAF (c:=40) (S:=(fun w'=>Below W.heap.size W w')) (T:=T) (k:=41) (D:=D) (by decide) hP hT);clear hI hT hP hC hW hD;go_wp2_with fail;all_goals first|exact HS|exact⟨rfl,HS⟩|rfl
  intro D w' hD hW hC hI;have hP:D 40=true:=aAk hC hW (by kernel_rfl);have hT:=hI.post hP;refine yO rfl ?_;have HS:=yH (pAF (c:=40) (S:=(fun w'=>Below W.heap.size W w')) (T:=T) (k:=42) (D:=D) (by decide) hP hT);clear hI hT hP hC hW hD;go_wp2_with fail;all_goals first|exact HS|exact⟨rfl,HS⟩|rfl
 intro D w6 hall hI;exact HQ.o w6 (hI.post (hall 40 (by decide)))
theorem rof_lf2{W:World}{X G bl ol n lcap:Nat}{i:Int}{x y:Ln}(KX:Hid (Blk W X #[.int .u8 x.cr,.int .u8 x.de,.int .u8 x.cu,.int .i64 x.li,.int .i64 x.db] 71))(FX:Hid x.Fits)(s0:decide (0<i)=false)(c2:decide (x.li<1)=true){Q:Exit→Act→World→Prop}{c0 c2 c3 c4 c5 c7 c10 c11 c12 c13 c14 c15 c16 c17 c18 c19 c20 c21 c22 c23 c24 c25 c26 c27 c28 c29 c30 c31 c32 c33 c34 c35 c36 c37 c38 c39 c40 c41 c42 c43 c44 c45 c46 c47 c48 c49 c50 c51 c52 c53 c54 c55 c56 c57 c58 c59 c60 c61 c62 c63 c64 c65 c66 c67 c68 c69 c70 c71 c72 c73 c74 c75 c76 c77 c78 c79 c80 c81 c82 c83 c84 c85 c86 c87 c88 c89 c90 c91 c92 c93 c94 c95 c96 c97 c98 c99 c100:Value}
  (hq:∀w6,(fun w'=>Below W.heap.size W w') w6→Q .normal ⟨#[c0,(.slice (some ⟨bl,ol,none⟩) n lcap),c2,c3,c4,c5,(.pointer (some ⟨G,0,none⟩)),c7,(.int .i64 i),(.pointer (some ⟨X,0,none⟩)),c10,c11,c12,c13,c14,c15,c16,c17,c18,c19,c20,c21,c22,c23,c24,c25,c26,c27,c28,c29,c30,c31,c32,c33,c34,c35,c36,c37,c38,c39,c40,c41,c42,c43,c44,c45,c46,c47,c48,c49,c50,c51,c52,c53,(.int .i64 i),(.bool false),(.bool false),undef,undef,undef,undef,undef,undef,undef,undef,undef,(.bool false),(.bool false),(.pointer (some ⟨X,3,none⟩)),(.int .i64 x.li),(.bool true),(.bool true),(.bool true),undef,undef,undef,(.bool true),(.bool true),undef,undef,undef,undef,undef,(.bool true),(.bool true),undef,undef,undef,undef,undef,undef,undef,undef,undef,undef,undef,(.bool true),c97,c98,c99,c100],[]⟩ w6):
  Code.wp Tryz.prog (((Tryz.f68.body).bind (aAr 13)).getD .skip) Q ⟨#[c0,(.slice (some ⟨bl,ol,none⟩) n lcap),c2,c3,c4,c5,(.pointer (some ⟨G,0,none⟩)),c7,(.int .i64 i),(.pointer (some ⟨X,0,none⟩)),c10,c11,c12,c13,c14,c15,c16,c17,c18,c19,c20,c21,c22,c23,c24,c25,c26,c27,c28,c29,c30,c31,c32,c33,c34,c35,c36,c37,c38,c39,c40,c41,c42,c43,c44,c45,c46,c47,c48,c49,c50,c51,c52,c53,c54,c55,c56,c57,c58,c59,c60,c61,c62,c63,c64,c65,c66,c67,c68,c69,c70,c71,c72,c73,c74,c75,c76,c77,c78,c79,c80,c81,c82,c83,c84,c85,c86,c87,c88,c89,c90,c91,c92,c93,c94,c95,c96,c97,c98,c99,c100],[]⟩ W:=by
 conv=>arg 2;whnf
 have HQ:=yH hq;clear hq
 refine aAg (by kernel_rfl) [(.int .i64 i),(.bool false),(.bool false),undef,undef,undef,undef,undef,undef,undef,undef,undef,(.bool false),(.bool false),(.pointer (some ⟨X,3,none⟩)),(.int .i64 x.li),(.bool true),(.bool true),(.bool true),undef,undef,undef,(.bool true),(.bool true),undef,undef,undef,undef,undef,(.bool true),(.bool true),undef,undef,undef,undef,undef,undef,undef,undef,undef,undef,undef,(.bool true)]
  (fun w'=>Below W.heap.size W w') (by kernel_rfl) yZ.drew ?_
 intro af haf;simp only[yG,List.append_eq,List.cons_append,List.nil_append,puts,Act.put,yA,yC,yF,yD,yE]at haf;subst haf;refine⟨?_,?_⟩
 ·simp only[yG,List.append_eq,List.cons_append,List.nil_append,aAv];refine⟨?z1,?z2,?z3,?z13,?z14,?z15,?z16,?z17,?z18,?z19,?z20,?z21,?z4,?z5,?z41,?_,?z42,?z6,?z7,?z22,?z23,?z24,?z8,?z9,?z25,?z26,?z27,?z28,?z29,?z10,?z11,?z30,?z31,?z32,?z33,?z34,?z35,?z36,?z37,?z38,?z39,?z40,?z12,trivial⟩
  case z1|z2|z3|z4|z5|z6|z7|z8|z9|z10|z11|z12=>
   intro w' hS;refine yO rfl ?_;have HS:=yH hS;clear hS;go_wp2_with fail;all_goals first|exact HS|exact⟨rfl,HS⟩|rfl|exact⟨by omega,HS.o⟩
  case z13|z14|z15|z16|z17|z18|z19|z20|z21|z22|z23|z24|z25|z26|z27|z28|z29|z30|z31|z32|z33|z34|z35|z36|z37|z38|z39|z40=>
   intro w' hS;refine pAC (by kernel_rfl) rfl hS
  case z41|z42=>
   intro w' hS;refine OpTo.wanted ?_ ?_
   kernel_rfl
   have HS:=yH hS;clear hS;go_wp2_with fail;all_goals first|exact HS|exact⟨rfl,HS⟩|rfl|exact⟨by omega,HS.o⟩
  intro w' hS;refine OpTo.wanted ?_ ?_
  kernel_rfl
  have d0_0:=(KX.o.below hS KX.o.lt).cell 0;have d0_1:=(KX.o.below hS KX.o.lt).cell 1;have d0_2:=(KX.o.below hS KX.o.lt).cell 2;have d0_3:=(KX.o.below hS KX.o.lt).cell 3;have d0_4:=(KX.o.below hS KX.o.lt).cell 4;simp at d0_0 d0_1 d0_2 d0_3 d0_4;have HS:=yH hS;clear hS;go_wp2_with fail;all_goals first|exact HS|exact⟨rfl,HS⟩|rfl|exact⟨by omega,HS.o⟩
 intro w6 b6;exact HQ.o w6 b6
theorem rof_lf3{W:World}{X G bl ol n lcap:Nat}{i:Int}{x y:Ln}(KX:Hid (Blk W X #[.int .u8 x.cr,.int .u8 x.de,.int .u8 x.cu,.int .i64 x.li,.int .i64 x.db] 71))(FX:Hid x.Fits)(s0:decide (0<i)=false)(c2:decide (x.li<1)=false)(c3:decide (x.db<0)=true){Q:Exit→Act→World→Prop}{c0 c2 c3 c4 c5 c7 c10 c11 c12 c13 c14 c15 c16 c17 c18 c19 c20 c21 c22 c23 c24 c25 c26 c27 c28 c29 c30 c31 c32 c33 c34 c35 c36 c37 c38 c39 c40 c41 c42 c43 c44 c45 c46 c47 c48 c49 c50 c51 c52 c53 c54 c55 c56 c57 c58 c59 c60 c61 c62 c63 c64 c65 c66 c67 c68 c69 c70 c71 c72 c73 c74 c75 c76 c77 c78 c79 c80 c81 c82 c83 c84 c85 c86 c87 c88 c89 c90 c91 c92 c93 c94 c95 c96 c97 c98 c99 c100:Value}
  (hq:∀w6,(fun w'=>Below W.heap.size W w') w6→Q .normal ⟨#[c0,(.slice (some ⟨bl,ol,none⟩) n lcap),c2,c3,c4,c5,(.pointer (some ⟨G,0,none⟩)),c7,(.int .i64 i),(.pointer (some ⟨X,0,none⟩)),c10,c11,c12,c13,c14,c15,c16,c17,c18,c19,c20,c21,c22,c23,c24,c25,c26,c27,c28,c29,c30,c31,c32,c33,c34,c35,c36,c37,c38,c39,c40,c41,c42,c43,c44,c45,c46,c47,c48,c49,c50,c51,c52,c53,(.int .i64 i),(.bool false),(.bool false),undef,undef,undef,undef,undef,undef,undef,undef,undef,(.bool false),(.bool false),(.pointer (some ⟨X,3,none⟩)),(.int .i64 x.li),(.bool false),(.bool false),(.bool false),(.pointer (some ⟨X,4,none⟩)),(.int .i64 x.db),(.bool true),(.bool true),(.bool true),undef,undef,undef,undef,undef,(.bool true),(.bool true),undef,undef,undef,undef,undef,undef,undef,undef,undef,undef,undef,(.bool true),c97,c98,c99,c100],[]⟩ w6):
  Code.wp Tryz.prog (((Tryz.f68.body).bind (aAr 13)).getD .skip) Q ⟨#[c0,(.slice (some ⟨bl,ol,none⟩) n lcap),c2,c3,c4,c5,(.pointer (some ⟨G,0,none⟩)),c7,(.int .i64 i),(.pointer (some ⟨X,0,none⟩)),c10,c11,c12,c13,c14,c15,c16,c17,c18,c19,c20,c21,c22,c23,c24,c25,c26,c27,c28,c29,c30,c31,c32,c33,c34,c35,c36,c37,c38,c39,c40,c41,c42,c43,c44,c45,c46,c47,c48,c49,c50,c51,c52,c53,c54,c55,c56,c57,c58,c59,c60,c61,c62,c63,c64,c65,c66,c67,c68,c69,c70,c71,c72,c73,c74,c75,c76,c77,c78,c79,c80,c81,c82,c83,c84,c85,c86,c87,c88,c89,c90,c91,c92,c93,c94,c95,c96,c97,c98,c99,c100],[]⟩ W:=by
 conv=>arg 2;whnf
 have HQ:=yH hq;clear hq
 refine aAg (by kernel_rfl) [(.int .i64 i),(.bool false),(.bool false),undef,undef,undef,undef,undef,undef,undef,undef,undef,(.bool false),(.bool false),(.pointer (some ⟨X,3,none⟩)),(.int .i64 x.li),(.bool false),(.bool false),(.bool false),(.pointer (some ⟨X,4,none⟩)),(.int .i64 x.db),(.bool true),(.bool true),(.bool true),undef,undef,undef,undef,undef,(.bool true),(.bool true),undef,undef,undef,undef,undef,undef,undef,undef,undef,undef,undef,(.bool true)]
  (fun w'=>Below W.heap.size W w') (by kernel_rfl) yZ.drew ?_
 intro af haf;simp only[yG,List.append_eq,List.cons_append,List.nil_append,puts,Act.put,yA,yC,yF,yD,yE]at haf;subst haf;refine⟨?_,?_⟩
 ·simp only[yG,List.append_eq,List.cons_append,List.nil_append,aAv];refine⟨?z1,?z2,?z3,?z13,?z14,?z15,?z16,?z17,?z18,?z19,?z20,?z21,?z4,?z5,?z38,?z42,?z39,?z6,?z7,?z40,?z43,?z41,?z8,?z9,?z22,?z23,?z24,?z25,?z26,?z10,?z11,?z27,?z28,?z29,?z30,?z31,?z32,?z33,?z34,?z35,?z36,?z37,?z12,trivial⟩
  case z1|z2|z3|z4|z5|z6|z7|z8|z9|z10|z11|z12=>
   intro w' hS;refine yO rfl ?_;have HS:=yH hS;clear hS;go_wp2_with fail;all_goals first|exact HS|exact⟨rfl,HS⟩|rfl|exact⟨by omega,HS.o⟩
  case z13|z14|z15|z16|z17|z18|z19|z20|z21|z22|z23|z24|z25|z26|z27|z28|z29|z30|z31|z32|z33|z34|z35|z36|z37=>
   intro w' hS;refine pAC (by kernel_rfl) rfl hS
  case z38|z39|z40|z41=>
   intro w' hS;refine OpTo.wanted ?_ ?_
   kernel_rfl
   have HS:=yH hS;clear hS;go_wp2_with fail;all_goals first|exact HS|exact⟨rfl,HS⟩|rfl|exact⟨by omega,HS.o⟩
  case z42|z43=>
   intro w' hS;refine OpTo.wanted ?_ ?_
   kernel_rfl
   have d0_0:=(KX.o.below hS KX.o.lt).cell 0;have d0_1:=(KX.o.below hS KX.o.lt).cell 1;have d0_2:=(KX.o.below hS KX.o.lt).cell 2;have d0_3:=(KX.o.below hS KX.o.lt).cell 3;have d0_4:=(KX.o.below hS KX.o.lt).cell 4;simp at d0_0 d0_1 d0_2 d0_3 d0_4;have HS:=yH hS;clear hS;go_wp2_with fail;all_goals first|exact HS|exact⟨rfl,HS⟩|rfl|exact⟨by omega,HS.o⟩
 intro w6 b6;exact HQ.o w6 b6
theorem rof_lf4{W:World}{X G bl ol n lcap:Nat}{i:Int}{x y:Ln}(KX:Hid (Blk W X #[.int .u8 x.cr,.int .u8 x.de,.int .u8 x.cu,.int .i64 x.li,.int .i64 x.db] 71))(FX:Hid x.Fits)(s0:decide (0<i)=false)(c2:decide (x.li<1)=false)(c3:decide (x.db<0)=false)(c4:decide (x.li<x.db)=true){Q:Exit→Act→World→Prop}{c0 c2 c3 c4 c5 c7 c10 c11 c12 c13 c14 c15 c16 c17 c18 c19 c20 c21 c22 c23 c24 c25 c26 c27 c28 c29 c30 c31 c32 c33 c34 c35 c36 c37 c38 c39 c40 c41 c42 c43 c44 c45 c46 c47 c48 c49 c50 c51 c52 c53 c54 c55 c56 c57 c58 c59 c60 c61 c62 c63 c64 c65 c66 c67 c68 c69 c70 c71 c72 c73 c74 c75 c76 c77 c78 c79 c80 c81 c82 c83 c84 c85 c86 c87 c88 c89 c90 c91 c92 c93 c94 c95 c96 c97 c98 c99 c100:Value}
  (hq:∀w6,(fun w'=>Below W.heap.size W w') w6→Q .normal ⟨#[c0,(.slice (some ⟨bl,ol,none⟩) n lcap),c2,c3,c4,c5,(.pointer (some ⟨G,0,none⟩)),c7,(.int .i64 i),(.pointer (some ⟨X,0,none⟩)),c10,c11,c12,c13,c14,c15,c16,c17,c18,c19,c20,c21,c22,c23,c24,c25,c26,c27,c28,c29,c30,c31,c32,c33,c34,c35,c36,c37,c38,c39,c40,c41,c42,c43,c44,c45,c46,c47,c48,c49,c50,c51,c52,c53,(.int .i64 i),(.bool false),(.bool false),undef,undef,undef,undef,undef,undef,undef,undef,undef,(.bool false),(.bool false),(.pointer (some ⟨X,3,none⟩)),(.int .i64 x.li),(.bool false),(.bool false),(.bool false),(.pointer (some ⟨X,4,none⟩)),(.int .i64 x.db),(.bool false),(.bool false),(.bool false),(.pointer (some ⟨X,4,none⟩)),(.int .i64 x.db),(.pointer (some ⟨X,3,none⟩)),(.int .i64 x.li),(.bool true),(.bool true),(.bool true),undef,undef,undef,undef,undef,undef,undef,undef,undef,undef,undef,(.bool true),c97,c98,c99,c100],[]⟩ w6):
  Code.wp Tryz.prog (((Tryz.f68.body).bind (aAr 13)).getD .skip) Q ⟨#[c0,(.slice (some ⟨bl,ol,none⟩) n lcap),c2,c3,c4,c5,(.pointer (some ⟨G,0,none⟩)),c7,(.int .i64 i),(.pointer (some ⟨X,0,none⟩)),c10,c11,c12,c13,c14,c15,c16,c17,c18,c19,c20,c21,c22,c23,c24,c25,c26,c27,c28,c29,c30,c31,c32,c33,c34,c35,c36,c37,c38,c39,c40,c41,c42,c43,c44,c45,c46,c47,c48,c49,c50,c51,c52,c53,c54,c55,c56,c57,c58,c59,c60,c61,c62,c63,c64,c65,c66,c67,c68,c69,c70,c71,c72,c73,c74,c75,c76,c77,c78,c79,c80,c81,c82,c83,c84,c85,c86,c87,c88,c89,c90,c91,c92,c93,c94,c95,c96,c97,c98,c99,c100],[]⟩ W:=by
 conv=>arg 2;whnf
 have HQ:=yH hq;clear hq
 refine aAg (by kernel_rfl) [(.int .i64 i),(.bool false),(.bool false),undef,undef,undef,undef,undef,undef,undef,undef,undef,(.bool false),(.bool false),(.pointer (some ⟨X,3,none⟩)),(.int .i64 x.li),(.bool false),(.bool false),(.bool false),(.pointer (some ⟨X,4,none⟩)),(.int .i64 x.db),(.bool false),(.bool false),(.bool false),(.pointer (some ⟨X,4,none⟩)),(.int .i64 x.db),(.pointer (some ⟨X,3,none⟩)),(.int .i64 x.li),(.bool true),(.bool true),(.bool true),undef,undef,undef,undef,undef,undef,undef,undef,undef,undef,undef,(.bool true)]
  (fun w'=>Below W.heap.size W w') (by kernel_rfl) yZ.drew ?_
 intro af haf;simp only[yG,List.append_eq,List.cons_append,List.nil_append,puts,Act.put,yA,yC,yF,yD,yE]at haf;subst haf;refine⟨?_,?_⟩
 ·simp only[yG,List.append_eq,List.cons_append,List.nil_append,aAv];refine⟨?z1,?z2,?z3,?z13,?z14,?z15,?z16,?z17,?z18,?z19,?z20,?z21,?z4,?z5,?z33,?z40,?z34,?z6,?z7,?z35,?z41,?z36,?z8,?z9,?z37,?z42,?z38,?z43,?z39,?z10,?z11,?z22,?z23,?z24,?z25,?z26,?z27,?z28,?z29,?z30,?z31,?z32,?z12,trivial⟩
  case z1|z2|z3|z4|z5|z6|z7|z8|z9|z10|z11|z12=>
   intro w' hS;refine yO rfl ?_;have HS:=yH hS;clear hS;go_wp2_with fail;all_goals first|exact HS|exact⟨rfl,HS⟩|rfl|exact⟨by omega,HS.o⟩
  case z13|z14|z15|z16|z17|z18|z19|z20|z21|z22|z23|z24|z25|z26|z27|z28|z29|z30|z31|z32=>
   intro w' hS;refine pAC (by kernel_rfl) rfl hS
  case z33|z34|z35|z36|z37|z38|z39=>
   intro w' hS;refine OpTo.wanted ?_ ?_
   kernel_rfl
   have HS:=yH hS;clear hS;go_wp2_with fail;all_goals first|exact HS|exact⟨rfl,HS⟩|rfl|exact⟨by omega,HS.o⟩
  case z40|z41|z42|z43=>
   intro w' hS;refine OpTo.wanted ?_ ?_
   kernel_rfl
   have d0_0:=(KX.o.below hS KX.o.lt).cell 0;have d0_1:=(KX.o.below hS KX.o.lt).cell 1;have d0_2:=(KX.o.below hS KX.o.lt).cell 2;have d0_3:=(KX.o.below hS KX.o.lt).cell 3;have d0_4:=(KX.o.below hS KX.o.lt).cell 4;simp at d0_0 d0_1 d0_2 d0_3 d0_4;have HS:=yH hS;clear hS;go_wp2_with fail;all_goals first|exact HS|exact⟨rfl,HS⟩|rfl|exact⟨by omega,HS.o⟩
 intro w6 b6;exact HQ.o w6 b6
theorem rof_lf5{W:World}{X G bl ol n lcap:Nat}{i:Int}{x y:Ln}(KX:Hid (Blk W X #[.int .u8 x.cr,.int .u8 x.de,.int .u8 x.cu,.int .i64 x.li,.int .i64 x.db] 71))(FX:Hid x.Fits)(s0:decide (0<i)=false)(c2:decide (x.li<1)=false)(c3:decide (x.db<0)=false)(c4:decide (x.li<x.db)=false){er:Int}(her:er≠0){T:World→Prop}(CT:Hid (∀w',Below W.heap.size W w'→Calls Tryz.prog 82 #[.pointer (some ⟨G,0,none⟩),.int .u8 x.cr,.int .u8 x.de,.int .u8 x.cu,.int .i64 x.li] w' fun e w''=>e=.returned (.int .i64 er)∧T w'')){Q:Exit→Act→World→Prop}{c0 c2 c3 c4 c5 c7 c10 c11 c12 c13 c14 c15 c16 c17 c18 c19 c20 c21 c22 c23 c24 c25 c26 c27 c28 c29 c30 c31 c32 c33 c34 c35 c36 c37 c38 c39 c40 c41 c42 c43 c44 c45 c46 c47 c48 c49 c50 c51 c52 c53 c54 c55 c56 c57 c58 c59 c60 c61 c62 c63 c64 c65 c66 c67 c68 c69 c70 c71 c72 c73 c74 c75 c76 c77 c78 c79 c80 c81 c82 c83 c84 c85 c86 c87 c88 c89 c90 c91 c92 c93 c94 c95 c96 c97 c98 c99 c100:Value}
  (hq:∀w6,T w6→Q .normal ⟨#[c0,(.slice (some ⟨bl,ol,none⟩) n lcap),c2,c3,c4,c5,(.pointer (some ⟨G,0,none⟩)),c7,(.int .i64 i),(.pointer (some ⟨X,0,none⟩)),c10,c11,c12,c13,c14,c15,c16,c17,c18,c19,c20,c21,c22,c23,c24,c25,c26,c27,c28,c29,c30,c31,c32,c33,c34,c35,c36,c37,c38,c39,c40,c41,c42,c43,c44,c45,c46,c47,c48,c49,c50,c51,c52,c53,(.int .i64 i),(.bool false),(.bool false),undef,undef,undef,undef,undef,undef,undef,undef,undef,(.bool false),(.bool false),(.pointer (some ⟨X,3,none⟩)),(.int .i64 x.li),(.bool false),(.bool false),(.bool false),(.pointer (some ⟨X,4,none⟩)),(.int .i64 x.db),(.bool false),(.bool false),(.bool false),(.pointer (some ⟨X,4,none⟩)),(.int .i64 x.db),(.pointer (some ⟨X,3,none⟩)),(.int .i64 x.li),(.bool false),(.bool false),(.bool false),(.pointer (some ⟨G,0,none⟩)),(.pointer (some ⟨X,0,none⟩)),(.int .u8 x.cr),(.pointer (some ⟨X,1,none⟩)),(.int .u8 x.de),(.pointer (some ⟨X,2,none⟩)),(.int .u8 x.cu),(.pointer (some ⟨X,3,none⟩)),(.int .i64 x.li),(.int .i64 er),(.bool true),(.bool true),c97,c98,c99,c100],[]⟩ w6):
  Code.wp Tryz.prog (((Tryz.f68.body).bind (aAr 13)).getD .skip) Q ⟨#[c0,(.slice (some ⟨bl,ol,none⟩) n lcap),c2,c3,c4,c5,(.pointer (some ⟨G,0,none⟩)),c7,(.int .i64 i),(.pointer (some ⟨X,0,none⟩)),c10,c11,c12,c13,c14,c15,c16,c17,c18,c19,c20,c21,c22,c23,c24,c25,c26,c27,c28,c29,c30,c31,c32,c33,c34,c35,c36,c37,c38,c39,c40,c41,c42,c43,c44,c45,c46,c47,c48,c49,c50,c51,c52,c53,c54,c55,c56,c57,c58,c59,c60,c61,c62,c63,c64,c65,c66,c67,c68,c69,c70,c71,c72,c73,c74,c75,c76,c77,c78,c79,c80,c81,c82,c83,c84,c85,c86,c87,c88,c89,c90,c91,c92,c93,c94,c95,c96,c97,c98,c99,c100],[]⟩ W:=by
 conv=>arg 2;whnf
 have HQ:=yH hq;clear hq;have c5:(er==0)=false:=by simpa using her
 have c6:decide (er=0)=false:=by simpa using her
 have c7:(er != 0)=true:=by simpa using her
 have c8:decide (¬er=0)=true:=by simpa using her
 clear her
 refine aA4 (by kernel_rfl) [(.int .i64 i),(.bool false),(.bool false),undef,undef,undef,undef,undef,undef,undef,undef,undef,(.bool false),(.bool false),(.pointer (some ⟨X,3,none⟩)),(.int .i64 x.li),(.bool false),(.bool false),(.bool false),(.pointer (some ⟨X,4,none⟩)),(.int .i64 x.db),(.bool false),(.bool false),(.bool false),(.pointer (some ⟨X,4,none⟩)),(.int .i64 x.db),(.pointer (some ⟨X,3,none⟩)),(.int .i64 x.li),(.bool false),(.bool false),(.bool false),(.pointer (some ⟨G,0,none⟩)),(.pointer (some ⟨X,0,none⟩)),(.int .u8 x.cr),(.pointer (some ⟨X,1,none⟩)),(.int .u8 x.de),(.pointer (some ⟨X,2,none⟩)),(.int .u8 x.cu),(.pointer (some ⟨X,3,none⟩)),(.int .i64 x.li),(.int .i64 er),(.bool true),(.bool true)]
  (Once 40 (fun w'=>Below W.heap.size W w') T) (by kernel_rfl) (Once.start yZ.drew) ?_
 intro af haf;simp only[yG,List.append_eq,List.cons_append,List.nil_append,puts,Act.put,yA,yC,yF,yD,yE]at haf;subst haf;refine⟨?_,?_⟩
 ·simp only[yG,List.append_eq,List.cons_append,List.nil_append,aCd];refine⟨?_,?_,?_,?_,?_,?_,?_,?_,?_,?_,?_,?_,?_,?_,?_,?_,?_,?_,?_,?_,?_,?_,?_,?_,?_,?_,?_,?_,?_,?_,?_,?_,?_,?_,?_,?_,?_,?_,?_,?_,?_,?_,?_,trivial⟩
  ·intro D w' hD hW hC hI;have hN:D 40=false:=aAa hC hD 40 (by kernel_rfl);have hS:=hI.pre hN;refine yO rfl ?_;have HS:=yH (pAE (c:=40) (S:=(fun w'=>Below W.heap.size W w')) (T:=T) (k:=0) (D:=D) (by decide) hN hS);clear hI hS hN hC hW hD;go_wp2_with fail;all_goals first|exact HS|exact⟨rfl,HS⟩|rfl
  ·intro D w' hD hW hC hI;have hN:D 40=false:=aAa hC hD 40 (by kernel_rfl);have hS:=hI.pre hN;refine yO rfl ?_;have HS:=yH (pAE (c:=40) (S:=(fun w'=>Below W.heap.size W w')) (T:=T) (k:=1) (D:=D) (by decide) hN hS);clear hI hS hN hC hW hD;go_wp2_with fail;all_goals first|exact HS|exact⟨rfl,HS⟩|rfl
  ·intro D w' hD hW hC hI;have hN:D 40=false:=aAa hC hD 40 (by kernel_rfl);have hS:=hI.pre hN;refine yO rfl ?_;have HS:=yH (pAE (c:=40) (S:=(fun w'=>Below W.heap.size W w')) (T:=T) (k:=2) (D:=D) (by decide) hN hS);clear hI hS hN hC hW hD;go_wp2_with fail;all_goals first|exact HS|exact⟨rfl,HS⟩|rfl
  ·intro D w' hD hW hC hI;have hN:D 40=false:=aAa hC hD 40 (by kernel_rfl);have hS:=hI.pre hN;exact pAC (by kernel_rfl) rfl (pAE (k:=3) (by decide) hN hS)
  ·intro D w' hD hW hC hI;have hN:D 40=false:=aAa hC hD 40 (by kernel_rfl);have hS:=hI.pre hN;exact pAC (by kernel_rfl) rfl (pAE (k:=4) (by decide) hN hS)
  ·intro D w' hD hW hC hI;have hN:D 40=false:=aAa hC hD 40 (by kernel_rfl);have hS:=hI.pre hN;exact pAC (by kernel_rfl) rfl (pAE (k:=5) (by decide) hN hS)
  ·intro D w' hD hW hC hI;have hN:D 40=false:=aAa hC hD 40 (by kernel_rfl);have hS:=hI.pre hN;exact pAC (by kernel_rfl) rfl (pAE (k:=6) (by decide) hN hS)
  ·intro D w' hD hW hC hI;have hN:D 40=false:=aAa hC hD 40 (by kernel_rfl);have hS:=hI.pre hN;exact pAC (by kernel_rfl) rfl (pAE (k:=7) (by decide) hN hS)
  ·intro D w' hD hW hC hI;have hN:D 40=false:=aAa hC hD 40 (by kernel_rfl);have hS:=hI.pre hN;exact pAC (by kernel_rfl) rfl (pAE (k:=8) (by decide) hN hS)
  ·intro D w' hD hW hC hI;have hN:D 40=false:=aAa hC hD 40 (by kernel_rfl);have hS:=hI.pre hN;exact pAC (by kernel_rfl) rfl (pAE (k:=9) (by decide) hN hS)
  ·intro D w' hD hW hC hI;have hN:D 40=false:=aAa hC hD 40 (by kernel_rfl);have hS:=hI.pre hN;exact pAC (by kernel_rfl) rfl (pAE (k:=10) (by decide) hN hS)
  ·intro D w' hD hW hC hI;have hN:D 40=false:=aAa hC hD 40 (by kernel_rfl);have hS:=hI.pre hN;exact pAC (by kernel_rfl) rfl (pAE (k:=11) (by decide) hN hS)
  ·intro D w' hD hW hC hI;have hN:D 40=false:=aAa hC hD 40 (by kernel_rfl);have hS:=hI.pre hN;refine yO rfl ?_;have HS:=yH (pAE (c:=40) (S:=(fun w'=>Below W.heap.size W w')) (T:=T) (k:=12) (D:=D) (by decide) hN hS);clear hI hS hN hC hW hD;go_wp2_with fail;all_goals first|exact HS|exact⟨rfl,HS⟩|rfl
  ·intro D w' hD hW hC hI;have hN:D 40=false:=aAa hC hD 40 (by kernel_rfl);have hS:=hI.pre hN;refine yO rfl ?_;have HS:=yH (pAE (c:=40) (S:=(fun w'=>Below W.heap.size W w')) (T:=T) (k:=13) (D:=D) (by decide) hN hS);clear hI hS hN hC hW hD;go_wp2_with fail;all_goals first|exact HS|exact⟨rfl,HS⟩|rfl
  ·intro D w' hD hW hC hI;have hN:D 40=false:=aAa hC hD 40 (by kernel_rfl);have hS:=hI.pre hN;refine OpTo.wanted ?_ ?_
   kernel_rfl
   have HS:=yH (pAE (c:=40) (S:=(fun w'=>Below W.heap.size W w')) (T:=T) (k:=14) (D:=D) (by decide) hN hS);clear hI hS hN hC hW hD;go_wp2_with fail;all_goals first|exact HS|exact⟨rfl,HS⟩|rfl
  ·intro D w' hD hW hC hI;have hN:D 40=false:=aAa hC hD 40 (by kernel_rfl);have hS:=hI.pre hN;refine OpTo.wanted ?_ ?_
   kernel_rfl
   have hl0:=yM KX.o.lt hS.size;have d0_0:=(KX.o.below hS KX.o.lt).cell 0;have d0_1:=(KX.o.below hS KX.o.lt).cell 1;have d0_2:=(KX.o.below hS KX.o.lt).cell 2;have d0_3:=(KX.o.below hS KX.o.lt).cell 3;have d0_4:=(KX.o.below hS KX.o.lt).cell 4;simp at d0_0 d0_1 d0_2 d0_3 d0_4;have HS:=yH (pAE (c:=40) (S:=(fun w'=>Below W.heap.size W w')) (T:=T) (k:=15) (D:=D) (by decide) hN hS);clear hI hS hN hC hW hD;go_wp2_with fail;all_goals first|exact HS|exact⟨rfl,HS⟩|rfl
  ·intro D w' hD hW hC hI;have hN:D 40=false:=aAa hC hD 40 (by kernel_rfl);have hS:=hI.pre hN;refine OpTo.wanted ?_ ?_
   kernel_rfl
   have HS:=yH (pAE (c:=40) (S:=(fun w'=>Below W.heap.size W w')) (T:=T) (k:=16) (D:=D) (by decide) hN hS);clear hI hS hN hC hW hD;go_wp2_with fail;all_goals first|exact HS|exact⟨rfl,HS⟩|rfl
  ·intro D w' hD hW hC hI;have hN:D 40=false:=aAa hC hD 40 (by kernel_rfl);have hS:=hI.pre hN;refine yO rfl ?_;have HS:=yH (pAE (c:=40) (S:=(fun w'=>Below W.heap.size W w')) (T:=T) (k:=17) (D:=D) (by decide) hN hS);clear hI hS hN hC hW hD;go_wp2_with fail;all_goals first|exact HS|exact⟨rfl,HS⟩|rfl
  ·intro D w' hD hW hC hI;have hN:D 40=false:=aAa hC hD 40 (by kernel_rfl);have hS:=hI.pre hN;refine yO rfl ?_;have HS:=yH (pAE (c:=40) (S:=(fun w'=>Below W.heap.size W w')) (T:=T) (k:=18) (D:=D) (by decide) hN hS);clear hI hS hN hC hW hD;go_wp2_with fail;all_goals first|exact HS|exact⟨rfl,HS⟩|rfl
  ·intro D w' hD hW hC hI;have hN:D 40=false:=aAa hC hD 40 (by kernel_rfl);have hS:=hI.pre hN;refine OpTo.wanted ?_ ?_
   kernel_rfl
   have HS:=yH (pAE (c:=40) (S:=(fun w'=>Below W.heap.size W w')) (T:=T) (k:=19) (D:=D) (by decide) hN hS);clear hI hS hN hC hW hD;go_wp2_with fail;all_goals first|exact HS|exact⟨rfl,HS⟩|rfl
  ·intro D w' hD hW hC hI;have hN:D 40=false:=aAa hC hD 40 (by kernel_rfl);have hS:=hI.pre hN;refine OpTo.wanted ?_ ?_
   kernel_rfl
   have hl0:=yM KX.o.lt hS.size;have d0_0:=(KX.o.below hS KX.o.lt).cell 0;have d0_1:=(KX.o.below hS KX.o.lt).cell 1;have d0_2:=(KX.o.below hS KX.o.lt).cell 2;have d0_3:=(KX.o.below hS KX.o.lt).cell 3;have d0_4:=(KX.o.below hS KX.o.lt).cell 4;simp at d0_0 d0_1 d0_2 d0_3 d0_4;have HS:=yH (pAE (c:=40) (S:=(fun w'=>Below W.heap.size W w')) (T:=T) (k:=20) (D:=D) (by decide) hN hS);clear hI hS hN hC hW hD;go_wp2_with fail;all_goals first|exact HS|exact⟨rfl,HS⟩|rfl
  ·intro D w' hD hW hC hI;have hN:D 40=false:=aAa hC hD 40 (by kernel_rfl);have hS:=hI.pre hN;refine OpTo.wanted ?_ ?_
   kernel_rfl
   have HS:=yH (pAE (c:=40) (S:=(fun w'=>Below W.heap.size W w')) (T:=T) (k:=21) (D:=D) (by decide) hN hS);clear hI hS hN hC hW hD;go_wp2_with fail;all_goals first|exact HS|exact⟨rfl,HS⟩|rfl
  ·intro D w' hD hW hC hI;have hN:D 40=false:=aAa hC hD 40 (by kernel_rfl);have hS:=hI.pre hN;refine yO rfl ?_;have HS:=yH (pAE (c:=40) (S:=(fun w'=>Below W.heap.size W w')) (T:=T) (k:=22) (D:=D) (by decide) hN hS);clear hI hS hN hC hW hD;go_wp2_with fail;all_goals first|exact HS|exact⟨rfl,HS⟩|rfl
  ·intro D w' hD hW hC hI;have hN:D 40=false:=aAa hC hD 40 (by kernel_rfl);have hS:=hI.pre hN;refine yO rfl ?_;have HS:=yH (pAE (c:=40) (S:=(fun w'=>Below W.heap.size W w')) (T:=T) (k:=23) (D:=D) (by decide) hN hS);clear hI hS hN hC hW hD;go_wp2_with fail;all_goals first|exact HS|exact⟨rfl,HS⟩|rfl
  ·intro D w' hD hW hC hI;have hN:D 40=false:=aAa hC hD 40 (by kernel_rfl);have hS:=hI.pre hN;refine OpTo.wanted ?_ ?_
   kernel_rfl
   have HS:=yH (pAE (c:=40) (S:=(fun w'=>Below W.heap.size W w')) (T:=T) (k:=24) (D:=D) (by decide) hN hS);clear hI hS hN hC hW hD;go_wp2_with fail;all_goals first|exact HS|exact⟨rfl,HS⟩|rfl
  ·intro D w' hD hW hC hI;have hN:D 40=false:=aAa hC hD 40 (by kernel_rfl);have hS:=hI.pre hN;refine OpTo.wanted ?_ ?_
   kernel_rfl
   have hl0:=yM KX.o.lt hS.size;have d0_0:=(KX.o.below hS KX.o.lt).cell 0;have d0_1:=(KX.o.below hS KX.o.lt).cell 1;have d0_2:=(KX.o.below hS KX.o.lt).cell 2;have d0_3:=(KX.o.below hS KX.o.lt).cell 3;have d0_4:=(KX.o.below hS KX.o.lt).cell 4;simp at d0_0 d0_1 d0_2 d0_3 d0_4;have HS:=yH (pAE (c:=40) (S:=(fun w'=>Below W.heap.size W w')) (T:=T) (k:=25) (D:=D) (by decide) hN hS);clear hI hS hN hC hW hD;go_wp2_with fail;all_goals first|exact HS|exact⟨rfl,HS⟩|rfl
  ·intro D w' hD hW hC hI;have hN:D 40=false:=aAa hC hD 40 (by kernel_rfl);have hS:=hI.pre hN;refine OpTo.wanted ?_ ?_
   kernel_rfl
   have HS:=yH (pAE (c:=40) (S:=(fun w'=>Below W.heap.size W w')) (T:=T) (k:=26) (D:=D) (by decide) hN hS);clear hI hS hN hC hW hD;go_wp2_with fail;all_goals first|exact HS|exact⟨rfl,HS⟩|rfl
  ·intro D w' hD hW hC hI;have hN:D 40=false:=aAa hC hD 40 (by kernel_rfl);have hS:=hI.pre hN;refine OpTo.wanted ?_ ?_
   kernel_rfl
   have hl0:=yM KX.o.lt hS.size;have d0_0:=(KX.o.below hS KX.o.lt).cell 0;have d0_1:=(KX.o.below hS KX.o.lt).cell 1;have d0_2:=(KX.o.below hS KX.o.lt).cell 2;have d0_3:=(KX.o.below hS KX.o.lt).cell 3;have d0_4:=(KX.o.below hS KX.o.lt).cell 4;simp at d0_0 d0_1 d0_2 d0_3 d0_4;have HS:=yH (pAE (c:=40) (S:=(fun w'=>Below W.heap.size W w')) (T:=T) (k:=27) (D:=D) (by decide) hN hS);clear hI hS hN hC hW hD;go_wp2_with fail;all_goals first|exact HS|exact⟨rfl,HS⟩|rfl
  ·intro D w' hD hW hC hI;have hN:D 40=false:=aAa hC hD 40 (by kernel_rfl);have hS:=hI.pre hN;refine OpTo.wanted ?_ ?_
   kernel_rfl
   have HS:=yH (pAE (c:=40) (S:=(fun w'=>Below W.heap.size W w')) (T:=T) (k:=28) (D:=D) (by decide) hN hS);clear hI hS hN hC hW hD;go_wp2_with fail;all_goals first|exact HS|exact⟨rfl,HS⟩|rfl
  ·intro D w' hD hW hC hI;have hN:D 40=false:=aAa hC hD 40 (by kernel_rfl);have hS:=hI.pre hN;refine yO rfl ?_;have HS:=yH (pAE (c:=40) (S:=(fun w'=>Below W.heap.size W w')) (T:=T) (k:=29) (D:=D) (by decide) hN hS);clear hI hS hN hC hW hD;go_wp2_with fail;all_goals first|exact HS|exact⟨rfl,HS⟩|rfl
  ·intro D w' hD hW hC hI;have hN:D 40=false:=aAa hC hD 40 (by kernel_rfl);have hS:=hI.pre hN;refine yO rfl ?_;have HS:=yH (pAE (c:=40) (S:=(fun w'=>Below W.heap.size W w')) (T:=T) (k:=30) (D:=D) (by decide) hN hS);clear hI hS hN hC hW hD;go_wp2_with fail;all_goals first|exact HS|exact⟨rfl,HS⟩|rfl
  ·intro D w' hD hW hC hI;have hN:D 40=false:=aAa hC hD 40 (by kernel_rfl);have hS:=hI.pre hN;refine OpTo.wanted ?_ ?_
   kernel_rfl
   have HS:=yH (pAE (c:=40) (S:=(fun w'=>Below W.heap.size W w')) (T:=T) (k:=31) (D:=D) (by decide) hN hS);clear hI hS hN hC hW hD;go_wp2_with fail;all_goals first|exact HS|exact⟨rfl,HS⟩|rfl
  ·intro D w' hD hW hC hI;have hN:D 40=false:=aAa hC hD 40 (by kernel_rfl);have hS:=hI.pre hN;refine OpTo.wanted ?_ ?_
   kernel_rfl
   have HS:=yH (pAE (c:=40) (S:=(fun w'=>Below W.heap.size W w')) (T:=T) (k:=32) (D:=D) (by decide) hN hS);clear hI hS hN hC hW hD;go_wp2_with fail;all_goals first|exact HS|exact⟨rfl,HS⟩|rfl
  ·intro D w' hD hW hC hI;have hN:D 40=false:=aAa hC hD 40 (by kernel_rfl);have hS:=hI.pre hN;refine OpTo.wanted ?_ ?_
   kernel_rfl
   have hl0:=yM KX.o.lt hS.size;have d0_0:=(KX.o.below hS KX.o.lt).cell 0;have d0_1:=(KX.o.below hS KX.o.lt).cell 1;have d0_2:=(KX.o.below hS KX.o.lt).cell 2;have d0_3:=(KX.o.below hS KX.o.lt).cell 3;have d0_4:=(KX.o.below hS KX.o.lt).cell 4;simp at d0_0 d0_1 d0_2 d0_3 d0_4;have HS:=yH (pAE (c:=40) (S:=(fun w'=>Below W.heap.size W w')) (T:=T) (k:=33) (D:=D) (by decide) hN hS);clear hI hS hN hC hW hD;go_wp2_with fail;all_goals first|exact HS|exact⟨rfl,HS⟩|rfl
  ·intro D w' hD hW hC hI;have hN:D 40=false:=aAa hC hD 40 (by kernel_rfl);have hS:=hI.pre hN;refine OpTo.wanted ?_ ?_
   kernel_rfl
   have HS:=yH (pAE (c:=40) (S:=(fun w'=>Below W.heap.size W w')) (T:=T) (k:=34) (D:=D) (by decide) hN hS);clear hI hS hN hC hW hD;go_wp2_with fail;all_goals first|exact HS|exact⟨rfl,HS⟩|rfl
  ·intro D w' hD hW hC hI;have hN:D 40=false:=aAa hC hD 40 (by kernel_rfl);have hS:=hI.pre hN;refine OpTo.wanted ?_ ?_
   kernel_rfl
   have hl0:=yM KX.o.lt hS.size;have d0_0:=(KX.o.below hS KX.o.lt).cell 0;have d0_1:=(KX.o.below hS KX.o.lt).cell 1;have d0_2:=(KX.o.below hS KX.o.lt).cell 2;have d0_3:=(KX.o.below hS KX.o.lt).cell 3;have d0_4:=(KX.o.below hS KX.o.lt).cell 4;simp at d0_0 d0_1 d0_2 d0_3 d0_4;have HS:=yH (pAE (c:=40) (S:=(fun w'=>Below W.heap.size W w')) (T:=T) (k:=35) (D:=D) (by decide) hN hS);clear hI hS hN hC hW hD;go_wp2_with fail;all_goals first|exact HS|exact⟨rfl,HS⟩|rfl
  ·intro D w' hD hW hC hI;have hN:D 40=false:=aAa hC hD 40 (by kernel_rfl);have hS:=hI.pre hN;refine OpTo.wanted ?_ ?_
   kernel_rfl
   have HS:=yH (pAE (c:=40) (S:=(fun w'=>Below W.heap.size W w')) (T:=T) (k:=36) (D:=D) (by decide) hN hS);clear hI hS hN hC hW hD;go_wp2_with fail;all_goals first|exact HS|exact⟨rfl,HS⟩|rfl
  ·intro D w' hD hW hC hI;have hN:D 40=false:=aAa hC hD 40 (by kernel_rfl);have hS:=hI.pre hN;refine OpTo.wanted ?_ ?_
   kernel_rfl
   have hl0:=yM KX.o.lt hS.size;have d0_0:=(KX.o.below hS KX.o.lt).cell 0;have d0_1:=(KX.o.below hS KX.o.lt).cell 1;have d0_2:=(KX.o.below hS KX.o.lt).cell 2;have d0_3:=(KX.o.below hS KX.o.lt).cell 3;have d0_4:=(KX.o.below hS KX.o.lt).cell 4;simp at d0_0 d0_1 d0_2 d0_3 d0_4;have HS:=yH (pAE (c:=40) (S:=(fun w'=>Below W.heap.size W w')) (T:=T) (k:=37) (D:=D) (by decide) hN hS);clear hI hS hN hC hW hD;go_wp2_with fail;all_goals first|exact HS|exact⟨rfl,HS⟩|rfl
  ·intro D w' hD hW hC hI;have hN:D 40=false:=aAa hC hD 40 (by kernel_rfl);have hS:=hI.pre hN;refine OpTo.wanted ?_ ?_
   kernel_rfl
   have HS:=yH (pAE (c:=40) (S:=(fun w'=>Below W.heap.size W w')) (T:=T) (k:=38) (D:=D) (by decide) hN hS);clear hI hS hN hC hW hD;go_wp2_with fail;all_goals first|exact HS|exact⟨rfl,HS⟩|rfl
  ·intro D w' hD hW hC hI;have hN:D 40=false:=aAa hC hD 40 (by kernel_rfl);have hS:=hI.pre hN;refine OpTo.wanted ?_ ?_
   kernel_rfl
   have hl0:=yM KX.o.lt hS.size;have d0_0:=(KX.o.below hS KX.o.lt).cell 0;have d0_1:=(KX.o.below hS KX.o.lt).cell 1;have d0_2:=(KX.o.below hS KX.o.lt).cell 2;have d0_3:=(KX.o.below hS KX.o.lt).cell 3;have d0_4:=(KX.o.below hS KX.o.lt).cell 4;simp at d0_0 d0_1 d0_2 d0_3 d0_4;have HS:=yH (pAE (c:=40) (S:=(fun w'=>Below W.heap.size W w')) (T:=T) (k:=39) (D:=D) (by decide) hN hS);clear hI hS hN hC hW hD;go_wp2_with fail;all_goals first|exact HS|exact⟨rfl,HS⟩|rfl
  ·intro D w' hD hW hC hI;have hN:D 40=false:=hD;have hS:=hI.pre hN;refine OpTo.wanted ?_ ?_
   kernel_rfl
   have HC:=yH (CT.o w' hS);clear hI hS hN hC hW hD;go_wp2_with fail;refine HC.o.mono ?_;rintro e w'' ⟨rfl,hT⟩;exact⟨rfl,Once.done hT⟩
  ·intro D w' hD hW hC hI;have hP:D 40=true:=aAk hC hW (by kernel_rfl);have hT:=hI.post hP;refine OpTo.wanted ?_ ?_
   kernel_rfl
   have HS:=yH (pAF (c:=40) (S:=(fun w'=>Below W.heap.size W w')) (T:=T) (k:=41) (D:=D) (by decide) hP hT);clear hI hT hP hC hW hD;go_wp2_with fail;all_goals first|exact HS|exact⟨rfl,HS⟩|rfl
  intro D w' hD hW hC hI;have hP:D 40=true:=aAk hC hW (by kernel_rfl);have hT:=hI.post hP;refine yO rfl ?_;have HS:=yH (pAF (c:=40) (S:=(fun w'=>Below W.heap.size W w')) (T:=T) (k:=42) (D:=D) (by decide) hP hT);clear hI hT hP hC hW hD;go_wp2_with fail;all_goals first|exact HS|exact⟨rfl,HS⟩|rfl
 intro D w6 hall hI;exact HQ.o w6 (hI.post (hall 40 (by decide)))
theorem rof_lf6{W:World}{X G bl ol n lcap:Nat}{i:Int}{x y:Ln}(KX:Hid (Blk W X #[.int .u8 x.cr,.int .u8 x.de,.int .u8 x.cu,.int .i64 x.li,.int .i64 x.db] 71))(FX:Hid x.Fits)(s0:decide (0<i)=false)(c2:decide (x.li<1)=false)(c3:decide (x.db<0)=false)(c4:decide (x.li<x.db)=false){T:World→Prop}(CT:Hid (∀w',Below W.heap.size W w'→Calls Tryz.prog 82 #[.pointer (some ⟨G,0,none⟩),.int .u8 x.cr,.int .u8 x.de,.int .u8 x.cu,.int .i64 x.li] w' fun e w''=>e=.returned (.int .i64 0)∧T w'')){Q:Exit→Act→World→Prop}{c0 c2 c3 c4 c5 c7 c10 c11 c12 c13 c14 c15 c16 c17 c18 c19 c20 c21 c22 c23 c24 c25 c26 c27 c28 c29 c30 c31 c32 c33 c34 c35 c36 c37 c38 c39 c40 c41 c42 c43 c44 c45 c46 c47 c48 c49 c50 c51 c52 c53 c54 c55 c56 c57 c58 c59 c60 c61 c62 c63 c64 c65 c66 c67 c68 c69 c70 c71 c72 c73 c74 c75 c76 c77 c78 c79 c80 c81 c82 c83 c84 c85 c86 c87 c88 c89 c90 c91 c92 c93 c94 c95 c96 c97 c98 c99 c100:Value}
  (hq:∀w6,T w6→Q .normal ⟨#[c0,(.slice (some ⟨bl,ol,none⟩) n lcap),c2,c3,c4,c5,(.pointer (some ⟨G,0,none⟩)),c7,(.int .i64 i),(.pointer (some ⟨X,0,none⟩)),c10,c11,c12,c13,c14,c15,c16,c17,c18,c19,c20,c21,c22,c23,c24,c25,c26,c27,c28,c29,c30,c31,c32,c33,c34,c35,c36,c37,c38,c39,c40,c41,c42,c43,c44,c45,c46,c47,c48,c49,c50,c51,c52,c53,(.int .i64 i),(.bool false),(.bool false),undef,undef,undef,undef,undef,undef,undef,undef,undef,(.bool false),(.bool false),(.pointer (some ⟨X,3,none⟩)),(.int .i64 x.li),(.bool false),(.bool false),(.bool false),(.pointer (some ⟨X,4,none⟩)),(.int .i64 x.db),(.bool false),(.bool false),(.bool false),(.pointer (some ⟨X,4,none⟩)),(.int .i64 x.db),(.pointer (some ⟨X,3,none⟩)),(.int .i64 x.li),(.bool false),(.bool false),(.bool false),(.pointer (some ⟨G,0,none⟩)),(.pointer (some ⟨X,0,none⟩)),(.int .u8 x.cr),(.pointer (some ⟨X,1,none⟩)),(.int .u8 x.de),(.pointer (some ⟨X,2,none⟩)),(.int .u8 x.cu),(.pointer (some ⟨X,3,none⟩)),(.int .i64 x.li),(.int .i64 0),(.bool false),(.bool false),c97,c98,c99,c100],[]⟩ w6):
  Code.wp Tryz.prog (((Tryz.f68.body).bind (aAr 13)).getD .skip) Q ⟨#[c0,(.slice (some ⟨bl,ol,none⟩) n lcap),c2,c3,c4,c5,(.pointer (some ⟨G,0,none⟩)),c7,(.int .i64 i),(.pointer (some ⟨X,0,none⟩)),c10,c11,c12,c13,c14,c15,c16,c17,c18,c19,c20,c21,c22,c23,c24,c25,c26,c27,c28,c29,c30,c31,c32,c33,c34,c35,c36,c37,c38,c39,c40,c41,c42,c43,c44,c45,c46,c47,c48,c49,c50,c51,c52,c53,c54,c55,c56,c57,c58,c59,c60,c61,c62,c63,c64,c65,c66,c67,c68,c69,c70,c71,c72,c73,c74,c75,c76,c77,c78,c79,c80,c81,c82,c83,c84,c85,c86,c87,c88,c89,c90,c91,c92,c93,c94,c95,c96,c97,c98,c99,c100],[]⟩ W:=by
 conv=>arg 2;whnf
 have HQ:=yH hq;clear hq
 refine aA4 (by kernel_rfl) [(.int .i64 i),(.bool false),(.bool false),undef,undef,undef,undef,undef,undef,undef,undef,undef,(.bool false),(.bool false),(.pointer (some ⟨X,3,none⟩)),(.int .i64 x.li),(.bool false),(.bool false),(.bool false),(.pointer (some ⟨X,4,none⟩)),(.int .i64 x.db),(.bool false),(.bool false),(.bool false),(.pointer (some ⟨X,4,none⟩)),(.int .i64 x.db),(.pointer (some ⟨X,3,none⟩)),(.int .i64 x.li),(.bool false),(.bool false),(.bool false),(.pointer (some ⟨G,0,none⟩)),(.pointer (some ⟨X,0,none⟩)),(.int .u8 x.cr),(.pointer (some ⟨X,1,none⟩)),(.int .u8 x.de),(.pointer (some ⟨X,2,none⟩)),(.int .u8 x.cu),(.pointer (some ⟨X,3,none⟩)),(.int .i64 x.li),(.int .i64 0),(.bool false),(.bool false)]
  (Once 40 (fun w'=>Below W.heap.size W w') T) (by kernel_rfl) (Once.start yZ.drew) ?_
 intro af haf;simp only[yG,List.append_eq,List.cons_append,List.nil_append,puts,Act.put,yA,yC,yF,yD,yE]at haf;subst haf;refine⟨?_,?_⟩
 ·simp only[yG,List.append_eq,List.cons_append,List.nil_append,aCd];refine⟨?_,?_,?_,?_,?_,?_,?_,?_,?_,?_,?_,?_,?_,?_,?_,?_,?_,?_,?_,?_,?_,?_,?_,?_,?_,?_,?_,?_,?_,?_,?_,?_,?_,?_,?_,?_,?_,?_,?_,?_,?_,?_,?_,trivial⟩
  ·intro D w' hD hW hC hI;have hN:D 40=false:=aAa hC hD 40 (by kernel_rfl);have hS:=hI.pre hN;refine yO rfl ?_;have HS:=yH (pAE (c:=40) (S:=(fun w'=>Below W.heap.size W w')) (T:=T) (k:=0) (D:=D) (by decide) hN hS);clear hI hS hN hC hW hD;go_wp2_with fail;all_goals first|exact HS|exact⟨rfl,HS⟩|rfl
  ·intro D w' hD hW hC hI;have hN:D 40=false:=aAa hC hD 40 (by kernel_rfl);have hS:=hI.pre hN;refine yO rfl ?_;have HS:=yH (pAE (c:=40) (S:=(fun w'=>Below W.heap.size W w')) (T:=T) (k:=1) (D:=D) (by decide) hN hS);clear hI hS hN hC hW hD;go_wp2_with fail;all_goals first|exact HS|exact⟨rfl,HS⟩|rfl
  ·intro D w' hD hW hC hI;have hN:D 40=false:=aAa hC hD 40 (by kernel_rfl);have hS:=hI.pre hN;refine yO rfl ?_;have HS:=yH (pAE (c:=40) (S:=(fun w'=>Below W.heap.size W w')) (T:=T) (k:=2) (D:=D) (by decide) hN hS);clear hI hS hN hC hW hD;go_wp2_with fail;all_goals first|exact HS|exact⟨rfl,HS⟩|rfl
  ·intro D w' hD hW hC hI;have hN:D 40=false:=aAa hC hD 40 (by kernel_rfl);have hS:=hI.pre hN;exact pAC (by kernel_rfl) rfl (pAE (k:=3) (by decide) hN hS)
  ·intro D w' hD hW hC hI;have hN:D 40=false:=aAa hC hD 40 (by kernel_rfl);have hS:=hI.pre hN;exact pAC (by kernel_rfl) rfl (pAE (k:=4) (by decide) hN hS)
  ·intro D w' hD hW hC hI;have hN:D 40=false:=aAa hC hD 40 (by kernel_rfl);have hS:=hI.pre hN;exact pAC (by kernel_rfl) rfl (pAE (k:=5) (by decide) hN hS)
  ·intro D w' hD hW hC hI;have hN:D 40=false:=aAa hC hD 40 (by kernel_rfl);have hS:=hI.pre hN;exact pAC (by kernel_rfl) rfl (pAE (k:=6) (by decide) hN hS)
  ·intro D w' hD hW hC hI;have hN:D 40=false:=aAa hC hD 40 (by kernel_rfl);have hS:=hI.pre hN;exact pAC (by kernel_rfl) rfl (pAE (k:=7) (by decide) hN hS)
  ·intro D w' hD hW hC hI;have hN:D 40=false:=aAa hC hD 40 (by kernel_rfl);have hS:=hI.pre hN;exact pAC (by kernel_rfl) rfl (pAE (k:=8) (by decide) hN hS)
  ·intro D w' hD hW hC hI;have hN:D 40=false:=aAa hC hD 40 (by kernel_rfl);have hS:=hI.pre hN;exact pAC (by kernel_rfl) rfl (pAE (k:=9) (by decide) hN hS)
  ·intro D w' hD hW hC hI;have hN:D 40=false:=aAa hC hD 40 (by kernel_rfl);have hS:=hI.pre hN;exact pAC (by kernel_rfl) rfl (pAE (k:=10) (by decide) hN hS)
  ·intro D w' hD hW hC hI;have hN:D 40=false:=aAa hC hD 40 (by kernel_rfl);have hS:=hI.pre hN;exact pAC (by kernel_rfl) rfl (pAE (k:=11) (by decide) hN hS)
  ·intro D w' hD hW hC hI;have hN:D 40=false:=aAa hC hD 40 (by kernel_rfl);have hS:=hI.pre hN;refine yO rfl ?_;have HS:=yH (pAE (c:=40) (S:=(fun w'=>Below W.heap.size W w')) (T:=T) (k:=12) (D:=D) (by decide) hN hS);clear hI hS hN hC hW hD;go_wp2_with fail;all_goals first|exact HS|exact⟨rfl,HS⟩|rfl
  ·intro D w' hD hW hC hI;have hN:D 40=false:=aAa hC hD 40 (by kernel_rfl);have hS:=hI.pre hN;refine yO rfl ?_;have HS:=yH (pAE (c:=40) (S:=(fun w'=>Below W.heap.size W w')) (T:=T) (k:=13) (D:=D) (by decide) hN hS);clear hI hS hN hC hW hD;go_wp2_with fail;all_goals first|exact HS|exact⟨rfl,HS⟩|rfl
  ·intro D w' hD hW hC hI;have hN:D 40=false:=aAa hC hD 40 (by kernel_rfl);have hS:=hI.pre hN;refine OpTo.wanted ?_ ?_
   kernel_rfl
   have HS:=yH (pAE (c:=40) (S:=(fun w'=>Below W.heap.size W w')) (T:=T) (k:=14) (D:=D) (by decide) hN hS);clear hI hS hN hC hW hD;go_wp2_with fail;all_goals first|exact HS|exact⟨rfl,HS⟩|rfl
  ·intro D w' hD hW hC hI;have hN:D 40=false:=aAa hC hD 40 (by kernel_rfl);have hS:=hI.pre hN;refine OpTo.wanted ?_ ?_
   kernel_rfl
   have hl0:=yM KX.o.lt hS.size;have d0_0:=(KX.o.below hS KX.o.lt).cell 0;have d0_1:=(KX.o.below hS KX.o.lt).cell 1;have d0_2:=(KX.o.below hS KX.o.lt).cell 2;have d0_3:=(KX.o.below hS KX.o.lt).cell 3;have d0_4:=(KX.o.below hS KX.o.lt).cell 4;simp at d0_0 d0_1 d0_2 d0_3 d0_4;have HS:=yH (pAE (c:=40) (S:=(fun w'=>Below W.heap.size W w')) (T:=T) (k:=15) (D:=D) (by decide) hN hS);clear hI hS hN hC hW hD;go_wp2_with fail;all_goals first|exact HS|exact⟨rfl,HS⟩|rfl
  ·intro D w' hD hW hC hI;have hN:D 40=false:=aAa hC hD 40 (by kernel_rfl);have hS:=hI.pre hN;refine OpTo.wanted ?_ ?_
   kernel_rfl
   have HS:=yH (pAE (c:=40) (S:=(fun w'=>Below W.heap.size W w')) (T:=T) (k:=16) (D:=D) (by decide) hN hS);clear hI hS hN hC hW hD;go_wp2_with fail;all_goals first|exact HS|exact⟨rfl,HS⟩|rfl
  ·intro D w' hD hW hC hI;have hN:D 40=false:=aAa hC hD 40 (by kernel_rfl);have hS:=hI.pre hN;refine yO rfl ?_;have HS:=yH (pAE (c:=40) (S:=(fun w'=>Below W.heap.size W w')) (T:=T) (k:=17) (D:=D) (by decide) hN hS);clear hI hS hN hC hW hD;go_wp2_with fail;all_goals first|exact HS|exact⟨rfl,HS⟩|rfl
  ·intro D w' hD hW hC hI;have hN:D 40=false:=aAa hC hD 40 (by kernel_rfl);have hS:=hI.pre hN;refine yO rfl ?_;have HS:=yH (pAE (c:=40) (S:=(fun w'=>Below W.heap.size W w')) (T:=T) (k:=18) (D:=D) (by decide) hN hS);clear hI hS hN hC hW hD;go_wp2_with fail;all_goals first|exact HS|exact⟨rfl,HS⟩|rfl
  ·intro D w' hD hW hC hI;have hN:D 40=false:=aAa hC hD 40 (by kernel_rfl);have hS:=hI.pre hN;refine OpTo.wanted ?_ ?_
   kernel_rfl
   have HS:=yH (pAE (c:=40) (S:=(fun w'=>Below W.heap.size W w')) (T:=T) (k:=19) (D:=D) (by decide) hN hS);clear hI hS hN hC hW hD;go_wp2_with fail;all_goals first|exact HS|exact⟨rfl,HS⟩|rfl
  ·intro D w' hD hW hC hI;have hN:D 40=false:=aAa hC hD 40 (by kernel_rfl);have hS:=hI.pre hN;refine OpTo.wanted ?_ ?_
   kernel_rfl
   have hl0:=yM KX.o.lt hS.size;have d0_0:=(KX.o.below hS KX.o.lt).cell 0;have d0_1:=(KX.o.below hS KX.o.lt).cell 1;have d0_2:=(KX.o.below hS KX.o.lt).cell 2;have d0_3:=(KX.o.below hS KX.o.lt).cell 3;have d0_4:=(KX.o.below hS KX.o.lt).cell 4;simp at d0_0 d0_1 d0_2 d0_3 d0_4;have HS:=yH (pAE (c:=40) (S:=(fun w'=>Below W.heap.size W w')) (T:=T) (k:=20) (D:=D) (by decide) hN hS);clear hI hS hN hC hW hD;go_wp2_with fail;all_goals first|exact HS|exact⟨rfl,HS⟩|rfl
  ·intro D w' hD hW hC hI;have hN:D 40=false:=aAa hC hD 40 (by kernel_rfl);have hS:=hI.pre hN;refine OpTo.wanted ?_ ?_
   kernel_rfl
   have HS:=yH (pAE (c:=40) (S:=(fun w'=>Below W.heap.size W w')) (T:=T) (k:=21) (D:=D) (by decide) hN hS);clear hI hS hN hC hW hD;go_wp2_with fail;all_goals first|exact HS|exact⟨rfl,HS⟩|rfl
  ·intro D w' hD hW hC hI;have hN:D 40=false:=aAa hC hD 40 (by kernel_rfl);have hS:=hI.pre hN;refine yO rfl ?_;have HS:=yH (pAE (c:=40) (S:=(fun w'=>Below W.heap.size W w')) (T:=T) (k:=22) (D:=D) (by decide) hN hS);clear hI hS hN hC hW hD;go_wp2_with fail;all_goals first|exact HS|exact⟨rfl,HS⟩|rfl
  ·intro D w' hD hW hC hI;have hN:D 40=false:=aAa hC hD 40 (by kernel_rfl);have hS:=hI.pre hN;refine yO rfl ?_;have HS:=yH (pAE (c:=40) (S:=(fun w'=>Below W.heap.size W w')) (T:=T) (k:=23) (D:=D) (by decide) hN hS);clear hI hS hN hC hW hD;go_wp2_with fail;all_goals first|exact HS|exact⟨rfl,HS⟩|rfl
  ·intro D w' hD hW hC hI;have hN:D 40=false:=aAa hC hD 40 (by kernel_rfl);have hS:=hI.pre hN;refine OpTo.wanted ?_ ?_
   kernel_rfl
   have HS:=yH (pAE (c:=40) (S:=(fun w'=>Below W.heap.size W w')) (T:=T) (k:=24) (D:=D) (by decide) hN hS);clear hI hS hN hC hW hD;go_wp2_with fail;all_goals first|exact HS|exact⟨rfl,HS⟩|rfl
  ·intro D w' hD hW hC hI;have hN:D 40=false:=aAa hC hD 40 (by kernel_rfl);have hS:=hI.pre hN;refine OpTo.wanted ?_ ?_
   kernel_rfl
   have hl0:=yM KX.o.lt hS.size;have d0_0:=(KX.o.below hS KX.o.lt).cell 0;have d0_1:=(KX.o.below hS KX.o.lt).cell 1;have d0_2:=(KX.o.below hS KX.o.lt).cell 2;have d0_3:=(KX.o.below hS KX.o.lt).cell 3;have d0_4:=(KX.o.below hS KX.o.lt).cell 4;simp at d0_0 d0_1 d0_2 d0_3 d0_4;have HS:=yH (pAE (c:=40) (S:=(fun w'=>Below W.heap.size W w')) (T:=T) (k:=25) (D:=D) (by decide) hN hS);clear hI hS hN hC hW hD;go_wp2_with fail;all_goals first|exact HS|exact⟨rfl,HS⟩|rfl
  ·intro D w' hD hW hC hI;have hN:D 40=false:=aAa hC hD 40 (by kernel_rfl);have hS:=hI.pre hN;refine OpTo.wanted ?_ ?_
   kernel_rfl
   have HS:=yH (pAE (c:=40) (S:=(fun w'=>Below W.heap.size W w')) (T:=T) (k:=26) (D:=D) (by decide) hN hS);clear hI hS hN hC hW hD;go_wp2_with fail;all_goals first|exact HS|exact⟨rfl,HS⟩|rfl
  ·intro D w' hD hW hC hI;have hN:D 40=false:=aAa hC hD 40 (by kernel_rfl);have hS:=hI.pre hN;refine OpTo.wanted ?_ ?_
   kernel_rfl
   have hl0:=yM KX.o.lt hS.size;have d0_0:=(KX.o.below hS KX.o.lt).cell 0;have d0_1:=(KX.o.below hS KX.o.lt).cell 1;have d0_2:=(KX.o.below hS KX.o.lt).cell 2;have d0_3:=(KX.o.below hS KX.o.lt).cell 3;have d0_4:=(KX.o.below hS KX.o.lt).cell 4;simp at d0_0 d0_1 d0_2 d0_3 d0_4;have HS:=yH (pAE (c:=40) (S:=(fun w'=>Below W.heap.size W w')) (T:=T) (k:=27) (D:=D) (by decide) hN hS);clear hI hS hN hC hW hD;go_wp2_with fail;all_goals first|exact HS|exact⟨rfl,HS⟩|rfl
  ·intro D w' hD hW hC hI;have hN:D 40=false:=aAa hC hD 40 (by kernel_rfl);have hS:=hI.pre hN;refine OpTo.wanted ?_ ?_
   kernel_rfl
   have HS:=yH (pAE (c:=40) (S:=(fun w'=>Below W.heap.size W w')) (T:=T) (k:=28) (D:=D) (by decide) hN hS);clear hI hS hN hC hW hD;go_wp2_with fail;all_goals first|exact HS|exact⟨rfl,HS⟩|rfl
  ·intro D w' hD hW hC hI;have hN:D 40=false:=aAa hC hD 40 (by kernel_rfl);have hS:=hI.pre hN;refine yO rfl ?_;have HS:=yH (pAE (c:=40) (S:=(fun w'=>Below W.heap.size W w')) (T:=T) (k:=29) (D:=D) (by decide) hN hS);clear hI hS hN hC hW hD;go_wp2_with fail;all_goals first|exact HS|exact⟨rfl,HS⟩|rfl
  ·intro D w' hD hW hC hI;have hN:D 40=false:=aAa hC hD 40 (by kernel_rfl);have hS:=hI.pre hN;refine yO rfl ?_;have HS:=yH (pAE (c:=40) (S:=(fun w'=>Below W.heap.size W w')) (T:=T) (k:=30) (D:=D) (by decide) hN hS);clear hI hS hN hC hW hD;go_wp2_with fail;all_goals first|exact HS|exact⟨rfl,HS⟩|rfl
  ·intro D w' hD hW hC hI;have hN:D 40=false:=aAa hC hD 40 (by kernel_rfl);have hS:=hI.pre hN;refine OpTo.wanted ?_ ?_
   kernel_rfl
   have HS:=yH (pAE (c:=40) (S:=(fun w'=>Below W.heap.size W w')) (T:=T) (k:=31) (D:=D) (by decide) hN hS);clear hI hS hN hC hW hD;go_wp2_with fail;all_goals first|exact HS|exact⟨rfl,HS⟩|rfl
  ·intro D w' hD hW hC hI;have hN:D 40=false:=aAa hC hD 40 (by kernel_rfl);have hS:=hI.pre hN;refine OpTo.wanted ?_ ?_
   kernel_rfl
   have HS:=yH (pAE (c:=40) (S:=(fun w'=>Below W.heap.size W w')) (T:=T) (k:=32) (D:=D) (by decide) hN hS);clear hI hS hN hC hW hD;go_wp2_with fail;all_goals first|exact HS|exact⟨rfl,HS⟩|rfl
  ·intro D w' hD hW hC hI;have hN:D 40=false:=aAa hC hD 40 (by kernel_rfl);have hS:=hI.pre hN;refine OpTo.wanted ?_ ?_
   kernel_rfl
   have hl0:=yM KX.o.lt hS.size;have d0_0:=(KX.o.below hS KX.o.lt).cell 0;have d0_1:=(KX.o.below hS KX.o.lt).cell 1;have d0_2:=(KX.o.below hS KX.o.lt).cell 2;have d0_3:=(KX.o.below hS KX.o.lt).cell 3;have d0_4:=(KX.o.below hS KX.o.lt).cell 4;simp at d0_0 d0_1 d0_2 d0_3 d0_4;have HS:=yH (pAE (c:=40) (S:=(fun w'=>Below W.heap.size W w')) (T:=T) (k:=33) (D:=D) (by decide) hN hS);clear hI hS hN hC hW hD;go_wp2_with fail;all_goals first|exact HS|exact⟨rfl,HS⟩|rfl
  ·intro D w' hD hW hC hI;have hN:D 40=false:=aAa hC hD 40 (by kernel_rfl);have hS:=hI.pre hN;refine OpTo.wanted ?_ ?_
   kernel_rfl
   have HS:=yH (pAE (c:=40) (S:=(fun w'=>Below W.heap.size W w')) (T:=T) (k:=34) (D:=D) (by decide) hN hS);clear hI hS hN hC hW hD;go_wp2_with fail;all_goals first|exact HS|exact⟨rfl,HS⟩|rfl
  ·intro D w' hD hW hC hI;have hN:D 40=false:=aAa hC hD 40 (by kernel_rfl);have hS:=hI.pre hN;refine OpTo.wanted ?_ ?_
   kernel_rfl
   have hl0:=yM KX.o.lt hS.size;have d0_0:=(KX.o.below hS KX.o.lt).cell 0;have d0_1:=(KX.o.below hS KX.o.lt).cell 1;have d0_2:=(KX.o.below hS KX.o.lt).cell 2;have d0_3:=(KX.o.below hS KX.o.lt).cell 3;have d0_4:=(KX.o.below hS KX.o.lt).cell 4;simp at d0_0 d0_1 d0_2 d0_3 d0_4;have HS:=yH (pAE (c:=40) (S:=(fun w'=>Below W.heap.size W w')) (T:=T) (k:=35) (D:=D) (by decide) hN hS);clear hI hS hN hC hW hD;go_wp2_with fail;all_goals first|exact HS|exact⟨rfl,HS⟩|rfl
  ·intro D w' hD hW hC hI;have hN:D 40=false:=aAa hC hD 40 (by kernel_rfl);have hS:=hI.pre hN;refine OpTo.wanted ?_ ?_
   kernel_rfl
   have HS:=yH (pAE (c:=40) (S:=(fun w'=>Below W.heap.size W w')) (T:=T) (k:=36) (D:=D) (by decide) hN hS);clear hI hS hN hC hW hD;go_wp2_with fail;all_goals first|exact HS|exact⟨rfl,HS⟩|rfl
  ·intro D w' hD hW hC hI;have hN:D 40=false:=aAa hC hD 40 (by kernel_rfl);have hS:=hI.pre hN;refine OpTo.wanted ?_ ?_
   kernel_rfl
   have hl0:=yM KX.o.lt hS.size;have d0_0:=(KX.o.below hS KX.o.lt).cell 0;have d0_1:=(KX.o.below hS KX.o.lt).cell 1;have d0_2:=(KX.o.below hS KX.o.lt).cell 2;have d0_3:=(KX.o.below hS KX.o.lt).cell 3;have d0_4:=(KX.o.below hS KX.o.lt).cell 4;simp at d0_0 d0_1 d0_2 d0_3 d0_4;have HS:=yH (pAE (c:=40) (S:=(fun w'=>Below W.heap.size W w')) (T:=T) (k:=37) (D:=D) (by decide) hN hS);clear hI hS hN hC hW hD;go_wp2_with fail;all_goals first|exact HS|exact⟨rfl,HS⟩|rfl
  ·intro D w' hD hW hC hI;have hN:D 40=false:=aAa hC hD 40 (by kernel_rfl);have hS:=hI.pre hN;refine OpTo.wanted ?_ ?_
   kernel_rfl
   have HS:=yH (pAE (c:=40) (S:=(fun w'=>Below W.heap.size W w')) (T:=T) (k:=38) (D:=D) (by decide) hN hS);clear hI hS hN hC hW hD;go_wp2_with fail;all_goals first|exact HS|exact⟨rfl,HS⟩|rfl
  ·intro D w' hD hW hC hI;have hN:D 40=false:=aAa hC hD 40 (by kernel_rfl);have hS:=hI.pre hN;refine OpTo.wanted ?_ ?_
   kernel_rfl
   have hl0:=yM KX.o.lt hS.size;have d0_0:=(KX.o.below hS KX.o.lt).cell 0;have d0_1:=(KX.o.below hS KX.o.lt).cell 1;have d0_2:=(KX.o.below hS KX.o.lt).cell 2;have d0_3:=(KX.o.below hS KX.o.lt).cell 3;have d0_4:=(KX.o.below hS KX.o.lt).cell 4;simp at d0_0 d0_1 d0_2 d0_3 d0_4;have HS:=yH (pAE (c:=40) (S:=(fun w'=>Below W.heap.size W w')) (T:=T) (k:=39) (D:=D) (by decide) hN hS);clear hI hS hN hC hW hD;go_wp2_with fail;all_goals first|exact HS|exact⟨rfl,HS⟩|rfl
  ·intro D w' hD hW hC hI;have hN:D 40=false:=hD;have hS:=hI.pre hN;refine OpTo.wanted ?_ ?_
   kernel_rfl
   have HC:=yH (CT.o w' hS);clear hI hS hN hC hW hD;go_wp2_with fail;refine HC.o.mono ?_;rintro e w'' ⟨rfl,hT⟩;exact⟨rfl,Once.done hT⟩
  ·intro D w' hD hW hC hI;have hP:D 40=true:=aAk hC hW (by kernel_rfl);have hT:=hI.post hP;refine OpTo.wanted ?_ ?_
   kernel_rfl
   have HS:=yH (pAF (c:=40) (S:=(fun w'=>Below W.heap.size W w')) (T:=T) (k:=41) (D:=D) (by decide) hP hT);clear hI hT hP hC hW hD;go_wp2_with fail;all_goals first|exact HS|exact⟨rfl,HS⟩|rfl
  intro D w' hD hW hC hI;have hP:D 40=true:=aAk hC hW (by kernel_rfl);have hT:=hI.post hP;refine yO rfl ?_;have HS:=yH (pAF (c:=40) (S:=(fun w'=>Below W.heap.size W w')) (T:=T) (k:=42) (D:=D) (by decide) hP hT);clear hI hT hP hC hW hD;go_wp2_with fail;all_goals first|exact HS|exact⟨rfl,HS⟩|rfl
 intro D w6 hall hI;exact HQ.o w6 (hI.post (hall 40 (by decide)))
end Go.Proofs.YtngnfdnfpiiclaaGreat
