/- Pieces of one proof. -/
import Derived.Test.YtngnfdnfpiiclaaGreatM15
import Derived.Test.YtngnfdnfpiiclaaGreatM16
set_option linter.all false
set_option maxHeartbeats 64000000
set_option maxRecDepth 100000
namespace Go.Proofs.YtngnfdnfpiiclaaGreat
open Go.RowKit
structure MM(w:World)(D:Nat→Prop)(k G M gb:Nat)(vb:Value)(σ:Hs):Prop where
 blk:Blk w k #[.pointer (some ⟨G,0,none⟩),.pointer (some ⟨gb,0,none⟩)] 82
 led:LedM w G M σ.ps σ.ls
 pb:PB w 0 gb σ.l σ.N vb
 dk:D k
 dg:D G
 dm:D M
 db:∀j,Foot gb vb j→D j
def MIs(D:Nat→Prop)(w:World)(k:Nat)(σ:Hs):Prop:=∃G M gb vb,MM w D k G M gb vb σ
def aE9(D:Nat→Prop)(w:World):Prop:=∀j,w.heap.size≤j→D j
theorem aE9.of_le{D:Nat→Prop}{w w':World}(h:aE9 D w)(hs:w.heap.size≤w'.heap.size):aE9 D w':=fun j hj=>h j (Nat.le_trans hs hj)
section
variable{w w':World}{D:Nat→Prop}{k G M gb:Nat}{vb:Value}{σ:Hs}
theorem MM.below(h:MM w D k G M gb vb σ)(q:Below w.heap.size w w'):MM w' D k G M gb vb σ:=⟨h.blk.below q h.blk.lt,h.led.below q,h.pb.below q,h.dk,h.dg,h.dm,h.db⟩
theorem MM.apart(h:MM w D k G M gb vb σ):k≠G∧k≠M∧¬Foot gb vb k:=by
 refine⟨aA0 h.blk h.led.blk zX,fun e=>h.led.map.ne_blk h.blk e.symm,fun e=>?_⟩;rcases e with e|e
 ·exact aA0 h.blk h.pb.blk zX e
 exact aB3 h.pb.row h.blk zX k e rfl
theorem MM.ledBook(h:MM w D k G M gb vb σ):(¬Foot gb vb G∧¬Foot gb vb M):=by
 refine⟨fun e=>?_,fun e=>?_⟩
 ·rcases e with e|e
  ·exact aA0 h.led.blk h.pb.blk zX e
  exact aB3 h.pb.row h.led.blk zX G e rfl
 rcases e with e|e
 ·exact h.led.map.ne_blk h.pb.blk e
 obtain⟨_,_,cur,hc⟩:=aAf h.pb.row e;exact h.led.map.ne_blk (show Blk w M cur 197 from hc) rfl
theorem MM.ledger{S:Nat→Prop}{ps:List Int}{ls:List Ln}(h:MM w D k G M gb vb σ)(hl:LedM w' G M ps ls)(q:Keep S w w')(hS:∀j,S j→j=G∨j=M):MM w' D k G M gb vb ⟨ps,ls,σ.l,σ.N⟩∧Keep D w w':=by
 obtain⟨a1,a2,_⟩:=h.apart;obtain⟨c1,c2⟩:=h.ledBook
 have n1:∀j,Foot gb vb j→¬S j:=fun j hf hj=>by
  rcases hS j hj with rfl|rfl
  ·exact c1 hf
  exact c2 hf
 refine⟨⟨h.blk.keep q (fun e=>by rcases hS k e with e|e;exact a1 e;exact a2 e),hl,h.pb.keep q (n1 _ (.inl rfl)) (fun b hb=>n1 b (.inr hb)),h.dk,h.dg,h.dm,h.db⟩,q.mono fun j _ e=>?_⟩;rcases hS j e with rfl|rfl
 ·exact h.dg
 exact h.dm
theorem MM.book{vb':Value}{l:List Of}{N:Int}(h:MM w D k G M gb vb σ)(hD:aE9 D w)(hp:PB w' 0 gb l N vb')(q:Keep (Foot gb vb) w w')(hv:aEj w vb vb'):MM w' D k G M gb vb' ⟨σ.ps,σ.ls,l,N⟩∧Keep D w w':=by
 obtain⟨_,_,a3⟩:=h.apart;obtain⟨c1,c2⟩:=h.ledBook;refine⟨⟨h.blk.keep q a3,h.led.keep q c1 c2,hp,h.dk,h.dg,h.dm,fun j hj=>?_⟩,q.mono fun j _ e=>h.db j e⟩;rcases hj with hj|hj
 ·exact h.db j (.inl hj)
 rcases hv j hj with e|e
 ·exact h.db j (.inr e)
 exact hD j e
theorem MM.house{w2:World}{G' M' gb':Nat}{vb':Value}{τ:Hs}(h:MM w D k G M gb vb σ)(hD:aE9 D w)(q:Below w.heap.size w w2)(hl:LedM w2 G' M' τ.ps τ.ls)(hp:PB w2 w.heap.size gb' τ.l τ.N vb')(hg:w.heap.size≤G')(hm:w.heap.size≤M')
  (k2:Keep (·=k) w2 w')(hb:Blk w' k #[.pointer (some ⟨G',0,none⟩),.pointer (some ⟨gb',0,none⟩)] 82):MM w' D k G' M' gb' vb' τ∧Keep D w w':=by
 have hk:=h.blk.lt;have hf:∀j,Foot gb' vb' j→w.heap.size≤j:=fun j hj=>(hp.lt hj).1
 refine⟨⟨hb,hl.keep k2 zQ zQ,(hp.down12 (Nat.zero_le _)).keep k2 (fun e=>by have:=hf gb' (.inl rfl);omega) (fun b hb e=>by have:=hf b (.inr hb);omega),h.dk,hD _ hg,hD _ hm,fun j hj=>hD _ (hf j hj)⟩,(pAD q).trans_new k2 (fun j _ e=>by rw[e];exact h.dk)⟩
theorem mm_on{w2:World}{τ:Hs}{vb':Value}(q:Below w.heap.size w w2){W:World}(b:Keep D W w)(h:MM w' D k G M gb vb' τ∧Keep D w2 w'):MM w' D k G M gb vb' τ∧Keep D W w':=⟨h.1,(b.trans (pAD q)).trans h.2⟩
theorem mbox(h:MM w D k G M gb vb σ)(hD:aE9 D w)(cs:Array Value)(t:TypeId):Hid (Blk (w.alloc (.cells cs t)) w.heap.size cs t)∧Hid (MM (w.alloc (.cells cs t)) D k G M gb vb σ)∧Hid (Keep D w (w.alloc (.cells cs t)))∧Hid (aE9 D (w.alloc (.cells cs t))):=
 have b:=(Below.refl w.heap.size w).alloc yL (.cells cs t)
 ⟨yH (Blk.new w cs t),yH (h.below b),yH (pAD b),yH (hD.of_le b.size)⟩
def aBp(w:World)(D:Nat→Prop)(k:Nat)(σ:Hs)(s:Stp)(e:Ending)(w':World):Prop:=
 e=.returned (.tuple #[.int .i64 (aAx σ s).2.1.gx,.int .i64 (aAx σ s).2.1.gy,.int .i64 (aAx σ s).2.2])∧MIs D w' k (aAx σ s).1∧Keep D w w'
theorem Once.keep{c:Nat}{S T:World→Prop}{D:Nat→Bool}{w:World}{k:Nat}(hk:k≠c)(h:Once c S T D w):Once c S T (ins k D) w:=by
 have e:ins k D c=D c:=by simp[ins,Ne.symm hk]
 exact⟨fun d=>h.1 (e ▸ d),fun d=>h.2 (e ▸ d)⟩
theorem aBp.of{τ:Hs}{s:Stp}{x y er:Int}{e:Ending}(hs:aAx σ s=(τ,⟨x,y⟩,er))(he:e=.returned (.tuple #[.int .i64 x,.int .i64 y,.int .i64 er]))(h:MM w' D k G M gb vb τ∧Keep D w w'):aBp w D k σ s e w':=by
 unfold aBp;rw[hs];exact⟨he,⟨_,_,_,_,h.1⟩,h.2⟩
theorem net_said{w w':World}{G M:Nat}{ps:List Int}{ls:List Ln}{c q:Int}{e:Ending}(hI:LInv ps ls)(h:∃gone many er ms,aFk ls c q gone many er ms∧e=.returned (.tuple #[.int .i64 gone,.int .i64 many,.int .i64 er])∧LedM w' G M ps ms∧Keep (·=M) w w'):
  e=.returned (.tuple #[.int .i64 (aDd ls c q).1,.int .i64 (aDd ls c q).2.1,.int .i64 (aDd ls c q).2.2.1])∧LedM w' G M ps (aDd ls c q).2.2.2∧Keep (·=M) w w':=by
 obtain⟨gone,many,er,ms,hn,he,hl,hk⟩:=h;rw[hn.isS hI];exact⟨he,hl,hk⟩
theorem aSk(h:MM w D k G M gb vb σ)(hD:aE9 D w)(hi:HInv σ){a b c d n mx nu de se:Int}(hs:Stp.Fits ⟨1,a,b,c,d,n,mx,nu,de,se⟩):
  Calls Tryz.prog 115 #[.pointer (some ⟨k,0,none⟩),.agg #[.int .u8 1,.int .u8 a,.int .u8 b,.int .u8 c,.int .u8 d,.int .i64 n,.int .i64 mx,.int .i64 nu,.int .i64 de,.int .u64 se]] w (aBp w D k σ ⟨1,a,b,c,d,n,mx,nu,de,se⟩):=by
 obtain⟨KS,H1,BX,LT⟩:=mbox h hD #[.int .u8 1,.int .u8 a,.int .u8 b,.int .u8 c,.int .u8 d,.int .i64 n,.int .i64 mx,.int .i64 nu,.int .i64 de,.int .u64 se] 87;have II:=yH hi;have SF:Hid (aAx σ ⟨1,a,b,c,d,n,mx,nu,de,se⟩=(⟨aGy σ.ps a,σ.ls,σ.l,σ.N⟩,⟨0,0⟩,aH8 σ.ps a)):=yH rfl;clear h hD hi hs;go_enter Tryz.func115,Tryz.ntmps115
 go_upto_region 1 with fail
 generalize w.alloc (.cells #[.int .u8 1,.int .u8 a,.int .u8 b,.int .u8 c,.int .u8 d,.int .i64 n,.int .i64 mx,.int .i64 nu,.int .i64 de,.int .u64 se] 87)=W at *;have m0:=H1.o.blk.cell 0;have m1:=H1.o.blk.cell 1;have ml:=H1.o.blk.lt;have sl:=KS.o.lt;have s1:=KS.o.cell 1;simp at m0 m1 s1;refine aBz zW [.pointer (some ⟨k,0,none⟩),.pointer (some ⟨k,0,none⟩),.pointer (some ⟨k,0,none⟩),.pointer (some ⟨k,0,none⟩),.pointer (some ⟨G,0,none⟩),.pointer (some ⟨w.heap.size,1,none⟩),.int .u8 a,.int .i64 (aH8 σ.ps a),.int .i64 0,.int .i64 0,.int .i64 (aH8 σ.ps a)] (Once 7 (fun w'=>Below W.heap.size W w'∧w'.cell? ⟨k,0,none⟩=some (.pointer (some ⟨G,0,none⟩))∧w'.cell? ⟨w.heap.size,1,none⟩=some (.int .u8 a)) (fun w''=>∃w',Below W.heap.size W w'∧LedM w'' G M (aGy σ.ps a) (σ.ls)∧Keep (·=G) w' w'')) zW (Once.start ⟨yZ.drew,m0,s1⟩) ?_;intro af haf;simp only[yG,List.append_eq,List.cons_append,List.nil_append,puts,Act.put,yA,yC,yF,yD,yE]at haf;subst haf;refine⟨?_,?_⟩
 ·simp only[yG,List.append_eq,List.cons_append,List.nil_append,aEa];refine⟨?_,?_,?_,?_,?_,?_,?_,?_,?_,?_,?_,trivial⟩
  iterate 7 (· intro D w' hD hW hC hI;have hN:D 7=false:=aAd hC hD 7 zW;have hS:=hI.pre hN;refine yO ?_ ?_;exact rfl;have HS:=yH (fun k (hk:k≠7)=>Once.keep (k:=k) hk hI);obtain⟨hb,t0,t1⟩:=hS;have l0:=yM ml hb.size;have l1:=yM sl hb.size;clear hI hN hC hW hD hb;go_wp2_with fail;all_goals first|exact HS.o _ zX|exact⟨rfl,HS.o _ zX⟩|rfl)
  ·intro D w' hD hW hC hI;obtain⟨hb,t0,t1⟩:=hI.pre hD;refine yO rfl ?_;have HC:=yH (open_any (H1.o.below hb).led II.o.li.bd a);have HBB:=yH hb;clear hI hC hW hD hb;go_wp2_with fail;refine HC.o.mono ?_;rintro e w'' ⟨rfl,hT⟩;exact⟨rfl,Once.done ⟨_,HBB.o,hT⟩⟩
  iterate 3 (· intro D w' hD hW hC hI;have HS:=yH (fun k (hk:k≠7)=>Once.keep (k:=k) hk hI);refine yO ?_ ?_;exact rfl;clear hI hC hW hD;go_wp2_with fail;all_goals first|exact HS.o _ zX|exact⟨rfl,HS.o _ zX⟩|rfl)
 intro DD w1 hall hI;have hT:=hI.post (hall 7 zX);clear hI hall;obtain⟨w2,hb,l1,k1⟩:=hT;go_wp2_with fail;refine bodyPost_ret (v:=.tuple #[.int .i64 0,.int .i64 0,.int .i64 (aH8 σ.ps a)]) (by simp[results,Tryz.results115,go_sem]) rfl ?_;exact aBp.of SF.o rfl (mm_on hb BX.o ((H1.o.below hb).ledger l1 k1 (fun j e=>.inl e)))
theorem aO0(h:MM w D k G M gb vb σ)(hD:aE9 D w)(hi:HInv σ){a b c d n mx nu de se:Int}(hs:Stp.Fits ⟨2,a,b,c,d,n,mx,nu,de,se⟩):
  Calls Tryz.prog 116 #[.pointer (some ⟨k,0,none⟩),.agg #[.int .u8 2,.int .u8 a,.int .u8 b,.int .u8 c,.int .u8 d,.int .i64 n,.int .i64 mx,.int .i64 nu,.int .i64 de,.int .u64 se]] w (aBp w D k σ ⟨2,a,b,c,d,n,mx,nu,de,se⟩):=by
 obtain⟨KS,H1,BX,LT⟩:=mbox h hD #[.int .u8 2,.int .u8 a,.int .u8 b,.int .u8 c,.int .u8 d,.int .i64 n,.int .i64 mx,.int .i64 nu,.int .i64 de,.int .u64 se] 87;have II:=yH hi;have FF:=yH hs;have SF:Hid (aAx σ ⟨2,a,b,c,d,n,mx,nu,de,se⟩=(⟨σ.ps,aA7 σ.ps σ.ls a b c n,σ.l,σ.N⟩,⟨0,0⟩,aAo σ.ps σ.ls a b c n)):=yH rfl;clear h hD hi hs;go_enter Tryz.func116,Tryz.ntmps116
 go_upto_region 1 with fail
 generalize w.alloc (.cells #[.int .u8 2,.int .u8 a,.int .u8 b,.int .u8 c,.int .u8 d,.int .i64 n,.int .i64 mx,.int .i64 nu,.int .i64 de,.int .u64 se] 87)=W at *;have m0:=H1.o.blk.cell 0;have m1:=H1.o.blk.cell 1;have ml:=H1.o.blk.lt;have sl:=KS.o.lt;have s1:=KS.o.cell 1;have s2:=KS.o.cell 2;have s3:=KS.o.cell 3;have s5:=KS.o.cell 5;simp at m0 m1 s1 s2 s3 s5;refine aBz zW [.pointer (some ⟨k,0,none⟩),.pointer (some ⟨k,0,none⟩),.pointer (some ⟨k,0,none⟩),.pointer (some ⟨k,0,none⟩),.pointer (some ⟨G,0,none⟩),.pointer (some ⟨w.heap.size,1,none⟩),.int .u8 a,.pointer (some ⟨w.heap.size,2,none⟩),.int .u8 b,.pointer (some ⟨w.heap.size,3,none⟩),.int .u8 c,.pointer (some ⟨w.heap.size,5,none⟩),.int .i64 n,.int .i64 (aAo σ.ps σ.ls a b c n),.int .i64 0,.int .i64 0,.int .i64 (aAo σ.ps σ.ls a b c n)] (Once 13 (fun w'=>Below W.heap.size W w'∧w'.cell? ⟨k,0,none⟩=some (.pointer (some ⟨G,0,none⟩))∧w'.cell? ⟨w.heap.size,1,none⟩=some (.int .u8 a)∧w'.cell? ⟨w.heap.size,2,none⟩=some (.int .u8 b)∧w'.cell? ⟨w.heap.size,3,none⟩=some (.int .u8 c)∧w'.cell? ⟨w.heap.size,5,none⟩=some (.int .i64 n)) (fun w''=>∃w',Below W.heap.size W w'∧LedM w'' G M (σ.ps) (aA7 σ.ps σ.ls a b c n)∧Keep (·=M) w' w'')) zW (Once.start ⟨yZ.drew,m0,s1,s2,s3,s5⟩) ?_;intro af haf;simp only[yG,List.append_eq,List.cons_append,List.nil_append,puts,Act.put,yA,yC,yF,yD,yE]at haf;subst haf;refine⟨?_,?_⟩
 ·simp only[yG,List.append_eq,List.cons_append,List.nil_append,aEa];refine⟨?_,?_,?_,?_,?_,?_,?_,?_,?_,?_,?_,?_,?_,?_,?_,?_,?_,trivial⟩
  iterate 13 (· intro D w' hD hW hC hI;have hN:D 13=false:=aAd hC hD 13 zW;have hS:=hI.pre hN;refine yO ?_ ?_;exact rfl;have HS:=yH (fun k (hk:k≠13)=>Once.keep (k:=k) hk hI);obtain⟨hb,t0,t1,t2,t3,t4⟩:=hS;have l0:=yM ml hb.size;have l1:=yM sl hb.size;clear hI hN hC hW hD hb;go_wp2_with fail;all_goals first|exact HS.o _ zX|exact⟨rfl,HS.o _ zX⟩|rfl)
  ·intro D w' hD hW hC hI;obtain⟨hb,t0,t1,t2,t3,t4⟩:=hI.pre hD;refine yO rfl ?_;have HC:=yH (ptrust_any (H1.o.below hb).led II.o.li FF.o.a FF.o.b FF.o.c (n:=n));have HBB:=yH hb;clear hI hC hW hD hb;go_wp2_with fail;refine HC.o.mono ?_;rintro e w'' ⟨rfl,hT⟩;exact⟨rfl,Once.done ⟨_,HBB.o,hT⟩⟩
  iterate 3 (· intro D w' hD hW hC hI;have HS:=yH (fun k (hk:k≠13)=>Once.keep (k:=k) hk hI);refine yO ?_ ?_;exact rfl;clear hI hC hW hD;go_wp2_with fail;all_goals first|exact HS.o _ zX|exact⟨rfl,HS.o _ zX⟩|rfl)
 intro DD w1 hall hI;have hT:=hI.post (hall 13 zX);clear hI hall;obtain⟨w2,hb,l1,k1⟩:=hT;go_wp2_with fail;refine bodyPost_ret (v:=.tuple #[.int .i64 0,.int .i64 0,.int .i64 (aAo σ.ps σ.ls a b c n)]) (by simp[results,Tryz.results116,go_sem]) rfl ?_;exact aBp.of SF.o rfl (mm_on hb BX.o ((H1.o.below hb).ledger l1 k1 (fun j e=>.inr e)))
theorem mpay_any(HR:aEe)(h:MM w D k G M gb vb σ)(hD:aE9 D w)(hi:HInv σ){a b c d n mx nu de se:Int}(hs:Stp.Fits ⟨3,a,b,c,d,n,mx,nu,de,se⟩):
  Calls Tryz.prog 117 #[.pointer (some ⟨k,0,none⟩),.agg #[.int .u8 3,.int .u8 a,.int .u8 b,.int .u8 c,.int .u8 d,.int .i64 n,.int .i64 mx,.int .i64 nu,.int .i64 de,.int .u64 se]] w (aBp w D k σ ⟨3,a,b,c,d,n,mx,nu,de,se⟩):=by
 obtain⟨KS,H1,BX,LT⟩:=mbox h hD #[.int .u8 3,.int .u8 a,.int .u8 b,.int .u8 c,.int .u8 d,.int .i64 n,.int .i64 mx,.int .i64 nu,.int .i64 de,.int .u64 se] 87;have II:=yH hi;have FF:=yH hs;have SF:Hid (aAx σ ⟨3,a,b,c,d,n,mx,nu,de,se⟩=(⟨σ.ps,aM4 σ.ps σ.ls a b c n,σ.l,σ.N⟩,⟨payN σ.ps a b c n (aBt (aAw σ.ps σ.ls c) a b n),0⟩,payE σ.ps a b c n (aBt (aAw σ.ps σ.ls c) a b n))):=yH rfl;clear h hD hi hs;go_enter Tryz.func117,Tryz.ntmps117
 go_upto_region 1 with fail
 generalize w.alloc (.cells #[.int .u8 3,.int .u8 a,.int .u8 b,.int .u8 c,.int .u8 d,.int .i64 n,.int .i64 mx,.int .i64 nu,.int .i64 de,.int .u64 se] 87)=W at *;have m0:=H1.o.blk.cell 0;have m1:=H1.o.blk.cell 1;have ml:=H1.o.blk.lt;have sl:=KS.o.lt;have s1:=KS.o.cell 1;have s2:=KS.o.cell 2;have s3:=KS.o.cell 3;have s5:=KS.o.cell 5;simp at m0 m1 s1 s2 s3 s5;refine aBz zW [.pointer (some ⟨k,0,none⟩),.pointer (some ⟨k,0,none⟩),.pointer (some ⟨k,0,none⟩),.pointer (some ⟨k,0,none⟩),.pointer (some ⟨G,0,none⟩),.pointer (some ⟨w.heap.size,1,none⟩),.int .u8 a,.pointer (some ⟨w.heap.size,2,none⟩),.int .u8 b,.pointer (some ⟨w.heap.size,3,none⟩),.int .u8 c,.pointer (some ⟨w.heap.size,5,none⟩),.int .i64 n,.tuple #[.int .i64 (payN σ.ps a b c n (aBt (aAw σ.ps σ.ls c) a b n)),.int .i64 (payE σ.ps a b c n (aBt (aAw σ.ps σ.ls c) a b n))],.tuple #[.int .i64 (payN σ.ps a b c n (aBt (aAw σ.ps σ.ls c) a b n)),.int .i64 (payE σ.ps a b c n (aBt (aAw σ.ps σ.ls c) a b n))],.int .i64 (payN σ.ps a b c n (aBt (aAw σ.ps σ.ls c) a b n)),.int .i64 (payE σ.ps a b c n (aBt (aAw σ.ps σ.ls c) a b n)),.int .i64 (payN σ.ps a b c n (aBt (aAw σ.ps σ.ls c) a b n)),.int .i64 (payE σ.ps a b c n (aBt (aAw σ.ps σ.ls c) a b n))] (Once 13 (fun w'=>Below W.heap.size W w'∧w'.cell? ⟨k,0,none⟩=some (.pointer (some ⟨G,0,none⟩))∧w'.cell? ⟨w.heap.size,1,none⟩=some (.int .u8 a)∧w'.cell? ⟨w.heap.size,2,none⟩=some (.int .u8 b)∧w'.cell? ⟨w.heap.size,3,none⟩=some (.int .u8 c)∧w'.cell? ⟨w.heap.size,5,none⟩=some (.int .i64 n)) (fun w''=>∃w',Below W.heap.size W w'∧LedM w'' G M (σ.ps) (aM4 σ.ps σ.ls a b c n)∧Keep (·=M) w' w'')) zW (Once.start ⟨yZ.drew,m0,s1,s2,s3,s5⟩) ?_;intro af haf;simp only[yG,List.append_eq,List.cons_append,List.nil_append,puts,Act.put,yA,yC,yF,yD,yE]at haf;subst haf;refine⟨?_,?_⟩
 ·simp only[yG,List.append_eq,List.cons_append,List.nil_append,aEa];refine⟨?_,?_,?_,?_,?_,?_,?_,?_,?_,?_,?_,?_,?_,?_,?_,?_,?_,?_,?_,trivial⟩
  iterate 13 (· intro D w' hD hW hC hI;have hN:D 13=false:=aAd hC hD 13 zW;have hS:=hI.pre hN;refine yO ?_ ?_;exact rfl;have HS:=yH (fun k (hk:k≠13)=>Once.keep (k:=k) hk hI);obtain⟨hb,t0,t1,t2,t3,t4⟩:=hS;have l0:=yM ml hb.size;have l1:=yM sl hb.size;clear hI hN hC hW hD hb;go_wp2_with fail;all_goals first|exact HS.o _ zX|exact⟨rfl,HS.o _ zX⟩|rfl)
  ·intro D w' hD hW hC hI;obtain⟨hb,t0,t1,t2,t3,t4⟩:=hI.pre hD;refine yO rfl ?_;have HC:=yH (aLt HR (H1.o.below hb).led II.o.li FF.o.a FF.o.b FF.o.c FF.o.n (aCa (aAz II.o.li c) a b n));have HBB:=yH hb;clear hI hC hW hD hb;go_wp2_with fail;refine HC.o.mono ?_;rintro e w'' ⟨rfl,hT⟩;exact⟨rfl,Once.done ⟨_,HBB.o,hT⟩⟩
  iterate 5 (· intro D w' hD hW hC hI;have HS:=yH (fun k (hk:k≠13)=>Once.keep (k:=k) hk hI);refine yO ?_ ?_;exact rfl;clear hI hC hW hD;go_wp2_with fail;all_goals first|exact HS.o _ zX|exact⟨rfl,HS.o _ zX⟩|rfl)
 intro DD w1 hall hI;have hT:=hI.post (hall 13 zX);clear hI hall;obtain⟨w2,hb,l1,k1⟩:=hT;go_wp2_with fail;refine bodyPost_ret (v:=.tuple #[.int .i64 (payN σ.ps a b c n (aBt (aAw σ.ps σ.ls c) a b n)),.int .i64 0,.int .i64 (payE σ.ps a b c n (aBt (aAw σ.ps σ.ls c) a b n))]) (by simp[results,Tryz.results117,go_sem]) rfl ?_;exact aBp.of SF.o rfl (mm_on hb BX.o ((H1.o.below hb).ledger l1 k1 (fun j e=>.inr e)))
theorem aUq(h:MM w D k G M gb vb σ)(hD:aE9 D w)(hi:HInv σ){a b c d n mx nu de se:Int}(hs:Stp.Fits ⟨6,a,b,c,d,n,mx,nu,de,se⟩):
  Calls Tryz.prog 120 #[.pointer (some ⟨k,0,none⟩),.agg #[.int .u8 6,.int .u8 a,.int .u8 b,.int .u8 c,.int .u8 d,.int .i64 n,.int .i64 mx,.int .i64 nu,.int .i64 de,.int .u64 se]] w (aBp w D k σ ⟨6,a,b,c,d,n,mx,nu,de,se⟩):=by
 obtain⟨KS,H1,BX,LT⟩:=mbox h hD #[.int .u8 6,.int .u8 a,.int .u8 b,.int .u8 c,.int .u8 d,.int .i64 n,.int .i64 mx,.int .i64 nu,.int .i64 de,.int .u64 se] 87;have II:=yH hi;have SF:Hid (aAx σ ⟨6,a,b,c,d,n,mx,nu,de,se⟩=(⟨σ.ps,σ.ls,aCs σ.l a se,σ.N⟩,⟨aDt σ.l a se,0⟩,aBx σ.l a se)):=yH rfl;clear h hD hi hs;go_enter Tryz.func120,Tryz.ntmps120
 go_upto_region 1 with fail
 generalize w.alloc (.cells #[.int .u8 6,.int .u8 a,.int .u8 b,.int .u8 c,.int .u8 d,.int .i64 n,.int .i64 mx,.int .i64 nu,.int .i64 de,.int .u64 se] 87)=W at *;have m0:=H1.o.blk.cell 0;have m1:=H1.o.blk.cell 1;have ml:=H1.o.blk.lt;have sl:=KS.o.lt;have s1:=KS.o.cell 1;have s9:=KS.o.cell 9;simp at m0 m1 s1 s9;refine aBz zW [.pointer (some ⟨k,0,none⟩),.pointer (some ⟨k,0,none⟩),.pointer (some ⟨k,0,none⟩),.pointer (some ⟨k,1,none⟩),.pointer (some ⟨gb,0,none⟩),.pointer (some ⟨w.heap.size,1,none⟩),.int .u8 a,.pointer (some ⟨w.heap.size,9,none⟩),.int .u64 se,.tuple #[.int .i64 (aDt σ.l a se),.int .i64 (aBx σ.l a se)],.tuple #[.int .i64 (aDt σ.l a se),.int .i64 (aBx σ.l a se)],.int .i64 (aDt σ.l a se),.int .i64 (aBx σ.l a se),.int .i64 (aDt σ.l a se),.int .i64 (aBx σ.l a se)] (Once 9 (fun w'=>Below W.heap.size W w'∧w'.cell? ⟨k,1,none⟩=some (.pointer (some ⟨gb,0,none⟩))∧w'.cell? ⟨w.heap.size,1,none⟩=some (.int .u8 a)∧w'.cell? ⟨w.heap.size,9,none⟩=some (.int .u64 se)) (fun w''=>∃w',Below W.heap.size W w'∧∃vl1,PB w'' 0 gb (aCs σ.l a se) σ.N vl1∧Keep (Foot gb vb) w' w''∧aEj w' vb vl1)) zW (Once.start ⟨yZ.drew,m1,s1,s9⟩) ?_;intro af haf;simp only[yG,List.append_eq,List.cons_append,List.nil_append,puts,Act.put,yA,yC,yF,yD,yE]at haf;subst haf;refine⟨?_,?_⟩
 ·simp only[yG,List.append_eq,List.cons_append,List.nil_append,aEa];refine⟨?_,?_,?_,?_,?_,?_,?_,?_,?_,?_,?_,?_,?_,?_,?_,trivial⟩
  iterate 9 (· intro D w' hD hW hC hI;have hN:D 9=false:=aAd hC hD 9 zW;have hS:=hI.pre hN;refine yO ?_ ?_;exact rfl;have HS:=yH (fun k (hk:k≠9)=>Once.keep (k:=k) hk hI);obtain⟨hb,t0,t1,t2⟩:=hS;have l0:=yM ml hb.size;have l1:=yM sl hb.size;clear hI hN hC hW hD hb;go_wp2_with fail;all_goals first|exact HS.o _ zX|exact⟨rfl,HS.o _ zX⟩|rfl)
  ·intro D w' hD hW hC hI;obtain⟨hb,t0,t1,t2⟩:=hI.pre hD;refine yO rfl ?_;have HC:=yH (aTt (H1.o.below hb).pb II.o.bi a se);have HBB:=yH hb;clear hI hC hW hD hb;go_wp2_with fail;refine HC.o.mono ?_;rintro e w'' ⟨rfl,hT⟩;exact⟨rfl,Once.done ⟨_,HBB.o,hT⟩⟩
  iterate 5 (· intro D w' hD hW hC hI;have HS:=yH (fun k (hk:k≠9)=>Once.keep (k:=k) hk hI);refine yO ?_ ?_;exact rfl;clear hI hC hW hD;go_wp2_with fail;all_goals first|exact HS.o _ zX|exact⟨rfl,HS.o _ zX⟩|rfl)
 intro DD w1 hall hI;have hT:=hI.post (hall 9 zX);clear hI hall;obtain⟨w2,hb,vl1,p1,k1,mv1⟩:=hT;go_wp2_with fail;refine bodyPost_ret (v:=.tuple #[.int .i64 (aDt σ.l a se),.int .i64 0,.int .i64 (aBx σ.l a se)]) (by simp[results,Tryz.results120,go_sem]) rfl ?_;exact aBp.of SF.o rfl (mm_on hb BX.o ((H1.o.below hb).book (LT.o.of_le hb.size) p1 k1 mv1))
theorem mnet_any(HN:aT6)(h:MM w D k G M gb vb σ)(hD:aE9 D w)(hi:HInv σ){a b c d n mx nu de se:Int}(hs:Stp.Fits ⟨7,a,b,c,d,n,mx,nu,de,se⟩):
  Calls Tryz.prog 121 #[.pointer (some ⟨k,0,none⟩),.agg #[.int .u8 7,.int .u8 a,.int .u8 b,.int .u8 c,.int .u8 d,.int .i64 n,.int .i64 mx,.int .i64 nu,.int .i64 de,.int .u64 se]] w (aBp w D k σ ⟨7,a,b,c,d,n,mx,nu,de,se⟩):=by
 obtain⟨KS,H1,BX,LT⟩:=mbox h hD #[.int .u8 7,.int .u8 a,.int .u8 b,.int .u8 c,.int .u8 d,.int .i64 n,.int .i64 mx,.int .i64 nu,.int .i64 de,.int .u64 se] 87;have II:=yH hi;have FF:=yH hs;have SF:Hid (aAx σ ⟨7,a,b,c,d,n,mx,nu,de,se⟩=(⟨σ.ps,(aDd σ.ls c mx).2.2.2,σ.l,σ.N⟩,⟨(aDd σ.ls c mx).1,(aDd σ.ls c mx).2.1⟩,(aDd σ.ls c mx).2.2.1)):=yH rfl;clear h hD hi hs;go_enter Tryz.func121,Tryz.ntmps121
 go_upto_region 1 with fail
 generalize w.alloc (.cells #[.int .u8 7,.int .u8 a,.int .u8 b,.int .u8 c,.int .u8 d,.int .i64 n,.int .i64 mx,.int .i64 nu,.int .i64 de,.int .u64 se] 87)=W at *;have m0:=H1.o.blk.cell 0;have m1:=H1.o.blk.cell 1;have ml:=H1.o.blk.lt;have sl:=KS.o.lt;have s3:=KS.o.cell 3;have s6:=KS.o.cell 6;simp at m0 m1 s3 s6;refine aBz zW [.pointer (some ⟨k,0,none⟩),.pointer (some ⟨k,0,none⟩),.pointer (some ⟨k,0,none⟩),.pointer (some ⟨k,0,none⟩),.pointer (some ⟨G,0,none⟩),.pointer (some ⟨w.heap.size,3,none⟩),.int .u8 c,.pointer (some ⟨w.heap.size,6,none⟩),.int .i64 mx,.tuple #[.int .i64 (aDd σ.ls c mx).1,.int .i64 (aDd σ.ls c mx).2.1,.int .i64 (aDd σ.ls c mx).2.2.1],.int .i64 (aDd σ.ls c mx).1,.int .i64 (aDd σ.ls c mx).2.1,.int .i64 (aDd σ.ls c mx).2.2.1,.int .i64 (aDd σ.ls c mx).1,.int .i64 (aDd σ.ls c mx).2.1,.int .i64 (aDd σ.ls c mx).2.2.1] (Once 9 (fun w'=>Below W.heap.size W w'∧w'.cell? ⟨k,0,none⟩=some (.pointer (some ⟨G,0,none⟩))∧w'.cell? ⟨w.heap.size,3,none⟩=some (.int .u8 c)∧w'.cell? ⟨w.heap.size,6,none⟩=some (.int .i64 mx)) (fun w''=>∃w',Below W.heap.size W w'∧LedM w'' G M (σ.ps) ((aDd σ.ls c mx).2.2.2)∧Keep (·=M) w' w'')) zW (Once.start ⟨yZ.drew,m0,s3,s6⟩) ?_;intro af haf;simp only[yG,List.append_eq,List.cons_append,List.nil_append,puts,Act.put,yA,yC,yF,yD,yE]at haf;subst haf;refine⟨?_,?_⟩
 ·simp only[yG,List.append_eq,List.cons_append,List.nil_append,aEa];refine⟨?_,?_,?_,?_,?_,?_,?_,?_,?_,?_,?_,?_,?_,?_,?_,?_,trivial⟩
  iterate 9 (· intro D w' hD hW hC hI;have hN:D 9=false:=aAd hC hD 9 zW;have hS:=hI.pre hN;refine yO ?_ ?_;exact rfl;have HS:=yH (fun k (hk:k≠9)=>Once.keep (k:=k) hk hI);obtain⟨hb,t0,t1,t2⟩:=hS;have l0:=yM ml hb.size;have l1:=yM sl hb.size;clear hI hN hC hW hD hb;go_wp2_with fail;all_goals first|exact HS.o _ zX|exact⟨rfl,HS.o _ zX⟩|rfl)
  ·intro D w' hD hW hC hI;obtain⟨hb,t0,t1,t2⟩:=hI.pre hD;refine yO rfl ?_;have HC:=yH ((HN.at_ (H1.o.below hb).led II.o.li c mx FF.o.c FF.o.mx).mono (fun e w'' h=>net_said II.o.li h));have HBB:=yH hb;clear hI hC hW hD hb;go_wp2_with fail;refine HC.o.mono ?_;rintro e w'' ⟨rfl,hT⟩;exact⟨rfl,Once.done ⟨_,HBB.o,hT⟩⟩
  iterate 6 (· intro D w' hD hW hC hI;have HS:=yH (fun k (hk:k≠9)=>Once.keep (k:=k) hk hI);refine yO ?_ ?_;exact rfl;clear hI hC hW hD;go_wp2_with fail;all_goals first|exact HS.o _ zX|exact⟨rfl,HS.o _ zX⟩|rfl)
 intro DD w1 hall hI;have hT:=hI.post (hall 9 zX);clear hI hall;obtain⟨w2,hb,l1,k1⟩:=hT;go_wp2_with fail;refine bodyPost_ret (v:=.tuple #[.int .i64 (aDd σ.ls c mx).1,.int .i64 (aDd σ.ls c mx).2.1,.int .i64 (aDd σ.ls c mx).2.2.1]) (by simp[results,Tryz.results121,go_sem]) rfl ?_;exact aBp.of SF.o rfl (mm_on hb BX.o ((H1.o.below hb).ledger l1 k1 (fun j e=>.inr e)))
theorem aJ6(h:MM w D k G M gb vb σ)(hD:aE9 D w)(hi:HInv σ){a b c d n mx nu de se:Int}(hs:Stp.Fits ⟨9,a,b,c,d,n,mx,nu,de,se⟩):
  Calls Tryz.prog 123 #[.pointer (some ⟨k,0,none⟩),.agg #[.int .u8 9,.int .u8 a,.int .u8 b,.int .u8 c,.int .u8 d,.int .i64 n,.int .i64 mx,.int .i64 nu,.int .i64 de,.int .u64 se]] w (aBp w D k σ ⟨9,a,b,c,d,n,mx,nu,de,se⟩):=by
 obtain⟨KS,H1,BX,LT⟩:=mbox h hD #[.int .u8 9,.int .u8 a,.int .u8 b,.int .u8 c,.int .u8 d,.int .i64 n,.int .i64 mx,.int .i64 nu,.int .i64 de,.int .u64 se] 87;have II:=yH hi;have SF:Hid (aAx σ ⟨9,a,b,c,d,n,mx,nu,de,se⟩=(σ,⟨posL σ.ls a c,0⟩,0)):=yH rfl;clear h hD hi hs;go_enter Tryz.func123,Tryz.ntmps123
 go_upto_region 1 with fail
 generalize w.alloc (.cells #[.int .u8 9,.int .u8 a,.int .u8 b,.int .u8 c,.int .u8 d,.int .i64 n,.int .i64 mx,.int .i64 nu,.int .i64 de,.int .u64 se] 87)=W at *;have m0:=H1.o.blk.cell 0;have m1:=H1.o.blk.cell 1;have ml:=H1.o.blk.lt;have sl:=KS.o.lt;have s1:=KS.o.cell 1;have s3:=KS.o.cell 3;simp at m0 m1 s1 s3;refine aBz zW [.pointer (some ⟨k,0,none⟩),.pointer (some ⟨k,0,none⟩),.pointer (some ⟨k,0,none⟩),.pointer (some ⟨k,0,none⟩),.pointer (some ⟨G,0,none⟩),.pointer (some ⟨w.heap.size,1,none⟩),.int .u8 a,.pointer (some ⟨w.heap.size,3,none⟩),.int .u8 c,.int .i64 (posL σ.ls a c),.int .i64 (posL σ.ls a c),.int .i64 0,.int .i64 0] (Once 9 (fun w'=>Below W.heap.size W w'∧w'.cell? ⟨k,0,none⟩=some (.pointer (some ⟨G,0,none⟩))∧w'.cell? ⟨w.heap.size,1,none⟩=some (.int .u8 a)∧w'.cell? ⟨w.heap.size,3,none⟩=some (.int .u8 c)) (fun w''=>Below W.heap.size W w'')) zW (Once.start ⟨yZ.drew,m0,s1,s3⟩) ?_;intro af haf;simp only[yG,List.append_eq,List.cons_append,List.nil_append,puts,Act.put,yA,yC,yF,yD,yE]at haf;subst haf;refine⟨?_,?_⟩
 ·simp only[yG,List.append_eq,List.cons_append,List.nil_append,aEa];refine⟨?_,?_,?_,?_,?_,?_,?_,?_,?_,?_,?_,?_,?_,trivial⟩
  iterate 9 (· intro D w' hD hW hC hI;have hN:D 9=false:=aAd hC hD 9 zW;have hS:=hI.pre hN;refine yO ?_ ?_;exact rfl;have HS:=yH (fun k (hk:k≠9)=>Once.keep (k:=k) hk hI);obtain⟨hb,t0,t1,t2⟩:=hS;have l0:=yM ml hb.size;have l1:=yM sl hb.size;clear hI hN hC hW hD hb;go_wp2_with fail;all_goals first|exact HS.o _ zX|exact⟨rfl,HS.o _ zX⟩|rfl)
  ·intro D w' hD hW hC hI;obtain⟨hb,t0,t1,t2⟩:=hI.pre hD;refine yO rfl ?_;have HC:=yH (ppos_any (H1.o.below hb).led II.o.li a c);have HBB:=yH hb;clear hI hC hW hD hb;go_wp2_with fail;refine HC.o.mono ?_;rintro e w'' ⟨rfl,hT⟩;exact⟨rfl,Once.done (andB HBB.o hT)⟩
  iterate 3 (· intro D w' hD hW hC hI;have HS:=yH (fun k (hk:k≠9)=>Once.keep (k:=k) hk hI);refine yO ?_ ?_;exact rfl;clear hI hC hW hD;go_wp2_with fail;all_goals first|exact HS.o _ zX|exact⟨rfl,HS.o _ zX⟩|rfl)
 intro DD w1 hall hI;have hT:=hI.post (hall 9 zX);clear hI hall;go_wp2_with fail;refine bodyPost_ret (v:=.tuple #[.int .i64 (posL σ.ls a c),.int .i64 0,.int .i64 0]) (by simp[results,Tryz.results123,go_sem]) rfl ?_;exact aBp.of SF.o rfl ⟨H1.o.below hT,BX.o.trans (pAD hT)⟩
theorem mtotal_any(h:MM w D k G M gb vb σ)(hD:aE9 D w)(hi:HInv σ){a b c d n mx nu de se:Int}(hs:Stp.Fits ⟨10,a,b,c,d,n,mx,nu,de,se⟩):
  Calls Tryz.prog 124 #[.pointer (some ⟨k,0,none⟩),.agg #[.int .u8 10,.int .u8 a,.int .u8 b,.int .u8 c,.int .u8 d,.int .i64 n,.int .i64 mx,.int .i64 nu,.int .i64 de,.int .u64 se]] w (aBp w D k σ ⟨10,a,b,c,d,n,mx,nu,de,se⟩):=by
 obtain⟨KS,H1,BX,LT⟩:=mbox h hD #[.int .u8 10,.int .u8 a,.int .u8 b,.int .u8 c,.int .u8 d,.int .i64 n,.int .i64 mx,.int .i64 nu,.int .i64 de,.int .u64 se] 87;have II:=yH hi;have SF:Hid (aAx σ ⟨10,a,b,c,d,n,mx,nu,de,se⟩=(σ,⟨totL σ.ls c,0⟩,0)):=yH rfl;clear h hD hi hs;go_enter Tryz.func124,Tryz.ntmps124
 go_upto_region 1 with fail
 generalize w.alloc (.cells #[.int .u8 10,.int .u8 a,.int .u8 b,.int .u8 c,.int .u8 d,.int .i64 n,.int .i64 mx,.int .i64 nu,.int .i64 de,.int .u64 se] 87)=W at *;have m0:=H1.o.blk.cell 0;have m1:=H1.o.blk.cell 1;have ml:=H1.o.blk.lt;have sl:=KS.o.lt;have s3:=KS.o.cell 3;simp at m0 m1 s3;refine aBz zW [.pointer (some ⟨k,0,none⟩),.pointer (some ⟨k,0,none⟩),.pointer (some ⟨k,0,none⟩),.pointer (some ⟨k,0,none⟩),.pointer (some ⟨G,0,none⟩),.pointer (some ⟨w.heap.size,3,none⟩),.int .u8 c,.int .i64 (totL σ.ls c),.int .i64 (totL σ.ls c),.int .i64 0,.int .i64 0] (Once 7 (fun w'=>Below W.heap.size W w'∧w'.cell? ⟨k,0,none⟩=some (.pointer (some ⟨G,0,none⟩))∧w'.cell? ⟨w.heap.size,3,none⟩=some (.int .u8 c)) (fun w''=>Below W.heap.size W w'')) zW (Once.start ⟨yZ.drew,m0,s3⟩) ?_;intro af haf;simp only[yG,List.append_eq,List.cons_append,List.nil_append,puts,Act.put,yA,yC,yF,yD,yE]at haf;subst haf;refine⟨?_,?_⟩
 ·simp only[yG,List.append_eq,List.cons_append,List.nil_append,aEa];refine⟨?_,?_,?_,?_,?_,?_,?_,?_,?_,?_,?_,trivial⟩
  iterate 7 (· intro D w' hD hW hC hI;have hN:D 7=false:=aAd hC hD 7 zW;have hS:=hI.pre hN;refine yO ?_ ?_;exact rfl;have HS:=yH (fun k (hk:k≠7)=>Once.keep (k:=k) hk hI);obtain⟨hb,t0,t1⟩:=hS;have l0:=yM ml hb.size;have l1:=yM sl hb.size;clear hI hN hC hW hD hb;go_wp2_with fail;all_goals first|exact HS.o _ zX|exact⟨rfl,HS.o _ zX⟩|rfl)
  ·intro D w' hD hW hC hI;obtain⟨hb,t0,t1⟩:=hI.pre hD;refine yO rfl ?_;have HC:=yH (ptot_any (H1.o.below hb).led II.o.li c);have HBB:=yH hb;clear hI hC hW hD hb;go_wp2_with fail;refine HC.o.mono ?_;rintro e w'' ⟨rfl,hT⟩;exact⟨rfl,Once.done (andB HBB.o hT)⟩
  iterate 3 (· intro D w' hD hW hC hI;have HS:=yH (fun k (hk:k≠7)=>Once.keep (k:=k) hk hI);refine yO ?_ ?_;exact rfl;clear hI hC hW hD;go_wp2_with fail;all_goals first|exact HS.o _ zX|exact⟨rfl,HS.o _ zX⟩|rfl)
 intro DD w1 hall hI;have hT:=hI.post (hall 7 zX);clear hI hall;go_wp2_with fail;refine bodyPost_ret (v:=.tuple #[.int .i64 (totL σ.ls c),.int .i64 0,.int .i64 0]) (by simp[results,Tryz.results124,go_sem]) rfl ?_;exact aBp.of SF.o rfl ⟨H1.o.below hT,BX.o.trans (pAD hT)⟩
theorem lineV_eq(l:Option Ln):lineV l=.tuple #[.agg #[.int .u8 (l.getD noLn).cr,.int .u8 (l.getD noLn).de,.int .u8 (l.getD noLn).cu,.int .i64 (l.getD noLn).li,.int .i64 (l.getD noLn).db],.bool l.isSome]:=by cases l <;> rfl
theorem foundV_eq(l:Option Of):aQ8 l=.tuple #[.agg #[.int .u64 (l.getD noOf).se,.int .u8 (l.getD noOf).ow,.int .u8 (l.getD noOf).sl,.int .u8 (l.getD noOf).bu,.int .i64 (l.getD noOf).lf,.int .i64 (l.getD noOf).nu,.int .i64 (l.getD noOf).de],.bool l.isSome]:=by cases l <;> rfl
theorem aSl(h:MM w D k G M gb vb σ)(hD:aE9 D w)(hi:HInv σ){a b c d n mx nu de se:Int}(hs:Stp.Fits ⟨8,a,b,c,d,n,mx,nu,de,se⟩):
  Calls Tryz.prog 122 #[.pointer (some ⟨k,0,none⟩),.agg #[.int .u8 8,.int .u8 a,.int .u8 b,.int .u8 c,.int .u8 d,.int .i64 n,.int .i64 mx,.int .i64 nu,.int .i64 de,.int .u64 se]] w (aBp w D k σ ⟨8,a,b,c,d,n,mx,nu,de,se⟩):=by
 obtain⟨KS,H1,BX,LT⟩:=mbox h hD #[.int .u8 8,.int .u8 a,.int .u8 b,.int .u8 c,.int .u8 d,.int .i64 n,.int .i64 mx,.int .i64 nu,.int .i64 de,.int .u64 se] 87;have II:=yH hi;have FF:=yH hs;have SF:Hid (aAx σ ⟨8,a,b,c,d,n,mx,nu,de,se⟩=(σ,⟨(lnAt σ.ls a b c).db,(lnAt σ.ls a b c).li⟩,0)):=yH rfl;clear h hD hi hs;go_enter Tryz.func122,Tryz.ntmps122
 go_upto_region 1 with fail
 generalize w.alloc (.cells #[.int .u8 8,.int .u8 a,.int .u8 b,.int .u8 c,.int .u8 d,.int .i64 n,.int .i64 mx,.int .i64 nu,.int .i64 de,.int .u64 se] 87)=W at *;have m0:=H1.o.blk.cell 0;have m1:=H1.o.blk.cell 1;have ml:=H1.o.blk.lt;have sl:=KS.o.lt;have s1:=KS.o.cell 1;have s2:=KS.o.cell 2;have s3:=KS.o.cell 3;simp at m0 m1 s1 s2 s3;have CC:Hid (∀w',Below W.heap.size W w'→Calls Tryz.prog 159 #[.pointer (some ⟨G,0,none⟩),.int .u8 a,.int .u8 b,.int .u8 c] w' fun e w''=>e=.returned (lineV (aAn σ.ls a b c))∧Below w'.heap.size w' w''):=yH (fun w' hb=>gline_any (H1.o.below hb).led II.o.li.inv FF.o.a FF.o.b FF.o.c);rw[lineV_eq]at CC
 change Hid (aAx σ _=(σ,⟨((aAn σ.ls a b c).getD noLn).db,((aAn σ.ls a b c).getD noLn).li⟩,0))at SF
 generalize (aAn σ.ls a b c).getD noLn=y at CC SF;generalize (aAn σ.ls a b c).isSome=yb at CC;refine aFc zW (fun s:GV=>[.pointer (some ⟨k,0,none⟩),.pointer (some ⟨k,0,none⟩),.pointer (some ⟨k,0,none⟩),.pointer (some ⟨k,0,none⟩),.pointer (some ⟨G,0,none⟩),.pointer (some ⟨w.heap.size,1,none⟩),.int .u8 a,.pointer (some ⟨w.heap.size,2,none⟩),.int .u8 b,.pointer (some ⟨w.heap.size,3,none⟩),.int .u8 c,.tuple #[.agg #[.int .u8 y.cr,.int .u8 y.de,.int .u8 y.cu,.int .i64 y.li,.int .i64 y.db],.bool yb],.tuple #[.agg #[.int .u8 y.cr,.int .u8 y.de,.int .u8 y.cu,.int .i64 y.li,.int .i64 y.db],.bool yb],.agg #[.int .u8 y.cr,.int .u8 y.de,.int .u8 y.cu,.int .i64 y.li,.int .i64 y.db],.bool yb,.pointer (some ⟨s.g,0,none⟩),undef,.bool yb]) (LayI 11 15 16 W 71 #[.int .u8 0,.int .u8 0,.int .u8 0,.int .i64 0,.int .i64 0] (fun _=>#[.int .u8 y.cr,.int .u8 y.de,.int .u8 y.cu,.int .i64 y.li,.int .i64 y.db]) (fun _ _=>True)) zW ⟨0,noV⟩ LayI.start ?_;intro AF hAF;simp only[yG,List.append_eq,List.cons_append,List.nil_append,puts,Act.put,yA,yC,yF,yD,yE]at hAF;have hAF2:_=AF:=funext hAF;subst hAF2;clear hAF;refine⟨?_,?_⟩
 ·simp only[yG,List.append_eq,List.cons_append,List.nil_append,aO7];refine⟨?_,?_,?_,?_,?_,?_,?_,?_,?_,?_,?_,?_,?_,?_,?_,?_,?_,?_,trivial⟩
  iterate 11 (· intro s D w' hD hW hC hI;refine .inl ⟨s,fun _ _ _=>rfl,?_⟩;with_reducible refine yO ?_ ?_;exact rfl;have HS:=yH (fun k hk=>LayI.keep hI k hk);have hb:=hI.old;have t0:=(hb.cell (p:=⟨k,0,none⟩) ml).trans m0;have t1:=(hb.cell (p:=⟨w.heap.size,1,none⟩) sl).trans s1;have t2:=(hb.cell (p:=⟨w.heap.size,2,none⟩) sl).trans s2;have t3:=(hb.cell (p:=⟨w.heap.size,3,none⟩) sl).trans s3;have l0:=yM ml hb.size;have l1:=yM sl hb.size;clear hI hC hW hD hb;go_wp2_with fail;all_goals first|exact HS.o _ zX|exact⟨rfl,HS.o _ zX⟩|rfl)
  ·intro s D w' hD hW hC hI;have hE:D 16=false:=aAd hC hD 16 zW;refine .inr ?_;with_reducible refine aGs.plain ?_ ?_
   exact rfl;have hb:=hI.old;have HC:=yH ((CC.o _ hb).mono (fun e w'' h=>(⟨noV,h.1,trivial,h.2⟩:∃x:V5,_∧True∧_)));have HI:=yH hI;have HE:=yH hE;clear hI hC hW hD hb hE;go_wp2_with fail;refine HC.o.mono ?_;rintro e w'' ⟨x,rfl,hR,hb2⟩;refine aJ5 (.tuple #[.agg #[.int .u8 y.cr,.int .u8 y.de,.int .u8 y.cu,.int .i64 y.li,.int .i64 y.db],.bool yb]) rfl ⟨⟨s.g,x⟩,?_,rfl,LayI.call HI.o zX HE.o x hR hb2⟩;intro j hj hD'
   match j,hj with
   | 0,_|1,_|2,_|3,_|4,_|5,_|6,_|7,_|8,_|9,_|10,_|11,_|12,_|13,_|14,_|15,_|16,_|17,_=>rfl
   | j+18,_=>rfl
  iterate 3 (· intro s D w' hD hW hC hI;refine .inl ⟨s,fun _ _ _=>rfl,?_⟩;with_reducible refine yO ?_ ?_;exact rfl;have HS:=yH (fun k hk=>LayI.keep hI k hk);clear hI hC hW hD;go_wp2_with fail;all_goals first|exact HS.o _ zX|exact⟨rfl,HS.o _ zX⟩|rfl)
  ·intro s D w' hD hW hC hI;have hE:D 16=false:=aAd hC hD 16 zW;have HD:=yH hD;refine .inl ⟨⟨w'.heap.size,s.v⟩,?_,?_⟩
   ·intro j hj hD'
    match j,hj with
    | 0,_|1,_|2,_|3,_|4,_|5,_|6,_|7,_|8,_|9,_|10,_|11,_|12,_|13,_|14,_|16,_|17,_=>rfl
    | 15,_=>exact absurd hD' yQ
    | j+18,_=>rfl
   with_reducible refine yO ?_ ?_;exact rfl;have HS:=yH (LayI.lay hI zX hE (fun _ _ _ _ _=>trivial));clear hI hC hW hD hE;go_wp2_with fail;all_goals first|exact HS.o|exact⟨rfl,HS.o⟩|rfl
  ·intro s D w' hD hW hC hI;have hc:D 11=true:=aA8 hC hW zW;have hd:D 15=true:=aA8 hC hW zW;have hk:=hI.blk hd hD;refine .inl ⟨s,fun _ _ _=>rfl,?_⟩;with_reducible refine yO rfl ?_
   refine wp_store_row 71 (.tmp 7) (.tmp 22) rfl s.g ((fun _=>#[.int .u8 y.cr,.int .u8 y.de,.int .u8 y.cu,.int .i64 y.li,.int .i64 y.db]) s.v) rfl rfl 71 _ hk.out zW rfl zK ⟨rfl,?_⟩;exact LayI.fill hI zX hc hd hD (fun _ _ _ _ _=>trivial)
  iterate 1 (· intro s D w' hD hW hC hI;refine .inl ⟨s,fun _ _ _=>rfl,?_⟩;with_reducible refine yO ?_ ?_;exact rfl;have HS:=yH (fun k hk=>LayI.keep hI k hk);clear hI hC hW hD;go_wp2_with fail;all_goals first|exact HS.o _ zX|exact⟨rfl,HS.o _ zX⟩|rfl)
 intro s DD w1 hall hI;obtain⟨hb,hR,hB⟩:=hI
 replace hR:=hR (hall 11 zX)
 replace hB:=(hB (hall 15 zX)).2
 rw[if_pos (hall 16 zX)]at hB;dsimp only at hB;clear hall;have h3:=hB.cell 3;have h4:=hB.cell 4;simp at h3 h4;go_wp2_with fail
 go_quiet (fail)
 go_wp2_with fail;refine bodyPost_ret (v:=.tuple #[.int .i64 y.db,.int .i64 y.li,.int .i64 0]) (by simp[results,Tryz.results122,go_sem]) rfl ?_;have hq:=below_drewN hb nq;exact aBp.of SF.o rfl ⟨H1.o.below hq,BX.o.trans (pAD hq)⟩
theorem mleft_any(h:MM w D k G M gb vb σ)(hD:aE9 D w)(hi:HInv σ){a b c d n mx nu de se:Int}(hs:Stp.Fits ⟨11,a,b,c,d,n,mx,nu,de,se⟩):
  Calls Tryz.prog 125 #[.pointer (some ⟨k,0,none⟩),.agg #[.int .u8 11,.int .u8 a,.int .u8 b,.int .u8 c,.int .u8 d,.int .i64 n,.int .i64 mx,.int .i64 nu,.int .i64 de,.int .u64 se]] w (aBp w D k σ ⟨11,a,b,c,d,n,mx,nu,de,se⟩):=by
 obtain⟨KS,H1,BX,LT⟩:=mbox h hD #[.int .u8 11,.int .u8 a,.int .u8 b,.int .u8 c,.int .u8 d,.int .i64 n,.int .i64 mx,.int .i64 nu,.int .i64 de,.int .u64 se] 87;have II:=yH hi;have SF:Hid (aAx σ ⟨11,a,b,c,d,n,mx,nu,de,se⟩=(σ,⟨aBl σ.l se,0⟩,if(aAs σ.l se).isSome=true then 0 else 7)):=yH rfl;clear h hD hi hs;go_enter Tryz.func125,Tryz.ntmps125
 go_upto_region 1 with fail
 generalize w.alloc (.cells #[.int .u8 11,.int .u8 a,.int .u8 b,.int .u8 c,.int .u8 d,.int .i64 n,.int .i64 mx,.int .i64 nu,.int .i64 de,.int .u64 se] 87)=W at *;have m0:=H1.o.blk.cell 0;have m1:=H1.o.blk.cell 1;have ml:=H1.o.blk.lt;have sl:=KS.o.lt;have s9:=KS.o.cell 9;simp at m0 m1 s9;have CC:Hid (∀w',Below W.heap.size W w'→Calls Tryz.prog 162 #[.pointer (some ⟨gb,0,none⟩),.int .u64 se] w' fun e w''=>e=.returned (aQ8 (aAs σ.l se))∧Below w'.heap.size w' w''):=yH (fun w' hb=>aJo (H1.o.below hb).pb II.o.bi.n1 se);have LF:Hid (((aAs σ.l se).isSome=true→aBl σ.l se=((aAs σ.l se).getD noOf).lf)∧((aAs σ.l se).isSome=false→aBl σ.l se=0)):=yH (by unfold aBl;cases aAs σ.l se <;> simp);rw[foundV_eq]at CC;generalize (aAs σ.l se).getD noOf=y at CC LF;generalize (aAs σ.l se).isSome=yb at CC LF SF;refine aFc zW (fun s:GV=>[.pointer (some ⟨k,0,none⟩),.pointer (some ⟨k,0,none⟩),.pointer (some ⟨k,0,none⟩),.pointer (some ⟨k,1,none⟩),.pointer (some ⟨gb,0,none⟩),.pointer (some ⟨w.heap.size,9,none⟩),.int .u64 se,.tuple #[.agg #[.int .u64 y.se,.int .u8 y.ow,.int .u8 y.sl,.int .u8 y.bu,.int .i64 y.lf,.int .i64 y.nu,.int .i64 y.de],.bool yb],.tuple #[.agg #[.int .u64 y.se,.int .u8 y.ow,.int .u8 y.sl,.int .u8 y.bu,.int .i64 y.lf,.int .i64 y.nu,.int .i64 y.de],.bool yb],.agg #[.int .u64 y.se,.int .u8 y.ow,.int .u8 y.sl,.int .u8 y.bu,.int .i64 y.lf,.int .i64 y.nu,.int .i64 y.de],.bool yb,.pointer (some ⟨s.g,0,none⟩),undef,.bool yb]) (LayI 7 11 12 W 75 #[.int .u64 0,.int .u8 0,.int .u8 0,.int .u8 0,.int .i64 0,.int .i64 0,.int .i64 0] (fun _=>#[.int .u64 y.se,.int .u8 y.ow,.int .u8 y.sl,.int .u8 y.bu,.int .i64 y.lf,.int .i64 y.nu,.int .i64 y.de]) (fun _ _=>True)) zW ⟨0,noV⟩ LayI.start ?_;intro AF hAF;simp only[yG,List.append_eq,List.cons_append,List.nil_append,puts,Act.put,yA,yC,yF,yD,yE]at hAF;have hAF2:_=AF:=funext hAF;subst hAF2;clear hAF;refine⟨?_,?_⟩
 ·simp only[yG,List.append_eq,List.cons_append,List.nil_append,aO7];refine⟨?_,?_,?_,?_,?_,?_,?_,?_,?_,?_,?_,?_,?_,?_,trivial⟩
  iterate 7 (· intro s D w' hD hW hC hI;refine .inl ⟨s,fun _ _ _=>rfl,?_⟩;with_reducible refine yO ?_ ?_;exact rfl;have HS:=yH (fun k hk=>LayI.keep hI k hk);have hb:=hI.old;have t0:=(hb.cell (p:=⟨k,1,none⟩) ml).trans m1;have t1:=(hb.cell (p:=⟨w.heap.size,9,none⟩) sl).trans s9;have l0:=yM ml hb.size;have l1:=yM sl hb.size;clear hI hC hW hD hb;go_wp2_with fail;all_goals first|exact HS.o _ zX|exact⟨rfl,HS.o _ zX⟩|rfl)
  ·intro s D w' hD hW hC hI;have hE:D 12=false:=aAd hC hD 12 zW;refine .inr ?_;with_reducible refine aGs.plain ?_ ?_
   exact rfl;have hb:=hI.old;have HC:=yH ((CC.o _ hb).mono (fun e w'' h=>(⟨noV,h.1,trivial,h.2⟩:∃x:V5,_∧True∧_)));have HI:=yH hI;have HE:=yH hE;clear hI hC hW hD hb hE;go_wp2_with fail;refine HC.o.mono ?_;rintro e w'' ⟨x,rfl,hR,hb2⟩;refine aJ5 (.tuple #[.agg #[.int .u64 y.se,.int .u8 y.ow,.int .u8 y.sl,.int .u8 y.bu,.int .i64 y.lf,.int .i64 y.nu,.int .i64 y.de],.bool yb]) rfl ⟨⟨s.g,x⟩,?_,rfl,LayI.call HI.o zX HE.o x hR hb2⟩;intro j hj hD'
   match j,hj with
   | 0,_|1,_|2,_|3,_|4,_|5,_|6,_|7,_|8,_|9,_|10,_|11,_|12,_|13,_=>rfl
   | j+14,_=>rfl
  iterate 3 (· intro s D w' hD hW hC hI;refine .inl ⟨s,fun _ _ _=>rfl,?_⟩;with_reducible refine yO ?_ ?_;exact rfl;have HS:=yH (fun k hk=>LayI.keep hI k hk);clear hI hC hW hD;go_wp2_with fail;all_goals first|exact HS.o _ zX|exact⟨rfl,HS.o _ zX⟩|rfl)
  ·intro s D w' hD hW hC hI;have hE:D 12=false:=aAd hC hD 12 zW;have HD:=yH hD;refine .inl ⟨⟨w'.heap.size,s.v⟩,?_,?_⟩
   ·intro j hj hD'
    match j,hj with
    | 0,_|1,_|2,_|3,_|4,_|5,_|6,_|7,_|8,_|9,_|10,_|12,_|13,_=>rfl
    | 11,_=>exact absurd hD' yQ
    | j+14,_=>rfl
   with_reducible refine yO ?_ ?_;exact rfl;have HS:=yH (LayI.lay hI zX hE (fun _ _ _ _ _=>trivial));clear hI hC hW hD hE;go_wp2_with fail;all_goals first|exact HS.o|exact⟨rfl,HS.o⟩|rfl
  ·intro s D w' hD hW hC hI;have hc:D 7=true:=aA8 hC hW zW;have hd:D 11=true:=aA8 hC hW zW;have hk:=hI.blk hd hD;refine .inl ⟨s,fun _ _ _=>rfl,?_⟩;with_reducible refine yO rfl ?_
   refine wp_store_row 75 (.tmp 7) (.tmp 18) rfl s.g ((fun _=>#[.int .u64 y.se,.int .u8 y.ow,.int .u8 y.sl,.int .u8 y.bu,.int .i64 y.lf,.int .i64 y.nu,.int .i64 y.de]) s.v) rfl rfl 75 _ hk.out zW rfl zK ⟨rfl,?_⟩;exact LayI.fill hI zX hc hd hD (fun _ _ _ _ _=>trivial)
  iterate 1 (· intro s D w' hD hW hC hI;refine .inl ⟨s,fun _ _ _=>rfl,?_⟩;with_reducible refine yO ?_ ?_;exact rfl;have HS:=yH (fun k hk=>LayI.keep hI k hk);clear hI hC hW hD;go_wp2_with fail;all_goals first|exact HS.o _ zX|exact⟨rfl,HS.o _ zX⟩|rfl)
 intro s DD w1 hall hI;obtain⟨hb,hR,hB⟩:=hI
 replace hR:=hR (hall 7 zX)
 replace hB:=(hB (hall 11 zX)).2
 rw[if_pos (hall 12 zX)]at hB;dsimp only at hB;clear hall;have h4:=hB.cell 4;simp at h4
 cases yb with
 | true=>
  rw[LF.o.1 rfl,if_pos rfl]at SF;go_wp2_with fail;refine bodyPost_ret (v:=.tuple #[.int .i64 y.lf,.int .i64 0,.int .i64 0]) (by simp[results,Tryz.results125,go_sem]) rfl ?_;exact aBp.of SF.o rfl ⟨H1.o.below hb,BX.o.trans (pAD hb)⟩
 | false=>
  rw[LF.o.2 rfl,if_neg zX]at SF;go_wp2_with fail;refine bodyPost_ret (v:=.tuple #[.int .i64 0,.int .i64 0,.int .i64 7]) (by simp[results,Tryz.results125,go_sem]) rfl ?_;exact aBp.of SF.o rfl ⟨H1.o.below hb,BX.o.trans (pAD hb)⟩
structure Hin(W w:World)(ps:List Int)(ls:List Ln)(l:List Of)(N tk pt:Int)(fs:List Fl)(G M gb:Nat)(vb v:Value):Prop where
 led:LedM w G M ps ls
 pb:PB w W.heap.size gb l N vb
 row:aBk w 0 241 5 v fs.length (aCi tk pt fs)
 g0:W.heap.size≤G
 m0:W.heap.size≤M
section
variable{W w w':World}{ps:List Int}{ls:List Ln}{l:List Of}{N tk pt:Int}{fs:List Fl}{G M gb:Nat}{vb v:Value}
theorem Hin.below(h:Hin W w ps ls l N tk pt fs G M gb vb v)(k:Below w.heap.size w w'):Hin W w' ps ls l N tk pt fs G M gb vb v:=⟨h.led.below k,h.pb.below k,h.row.below k,h.g0,h.m0⟩
theorem aL1{w:World}{base:Nat}{e:TypeId}{size n:Nat}{v:Value}{xs:List Value}(h:aBk w base e size v n xs){g:Nat}{cs:Array Value}{t:TypeId}(k:Blk w g cs t)(hne:e≠t):∀b,v.ownBlock=some b→¬b=g:=by
 obtain⟨_,h2⟩:=h;rcases h2 with⟨rfl,_⟩|⟨g',cur,rfl,_,hg,_⟩
 ·intro b hb;cases hb
 intro b hb
 cases hb
 exact aA0 (show Blk w g' cur e from hg) k hne
theorem Hin.aside{k:Nat}{cs:Array Value}{t:TypeId}(h:Hin W w ps ls l N tk pt fs G M gb vb v)(b:Blk w k cs t)(q:Keep (·=k) w w')(t1:155≠t)(t2:158≠t)(t3:197≠t)(t4:241≠t):Hin W w' ps ls l N tk pt fs G M gb vb v:=
 ⟨h.led.keep q (aA0 h.led.blk b t1) (h.led.map.ne_blk b),h.pb.keep q (aA0 h.pb.blk b t2) (aB3 h.pb.row b t3),h.row.keep q (aL1 h.row b t4),h.g0,h.m0⟩
end
def aJa(W:World)(σ:Hs)(fr pt get give n most:Int)(x:V5)(w:World):Prop:=
 (∃er,er≠0∧(aDu σ.ps σ.ls σ.l fr pt get give n most).1=er∧x=⟨.pointer none,.pointer none,.slice none 0 0,.int .i64 er,undef⟩)∨
 (∃G M gb vb a c τ,aDu σ.ps σ.ls σ.l fr pt get give n most=(0,τ)∧x=⟨.pointer (some ⟨G,0,none⟩),.pointer (some ⟨gb,0,none⟩),.slice a τ.fs.length c,.int .i64 0,undef⟩∧Hin W w σ.ps τ.ls τ.l σ.N fr pt τ.fs G M gb vb (.slice a τ.fs.length c))
theorem swap_res{W w w':World}{σ:Hs}{fr pt get give n most:Int}{e:Ending}(hb:Below W.heap.size W w)(h:aSi w σ.ps σ.ls σ.l σ.N fr pt get give n most e w'):∃x:V5,e=.returned (.tuple #[.agg #[x.a,x.b],x.c,x.d])∧aJa W σ fr pt get give n most x w'∧Below w.heap.size w w':=by
 rcases h with⟨er,h1,h2,h3,h4⟩|⟨G,M,gb,vb,a,c,τ,h1,_,h2,h3,h4,h5,h6,h7,h8⟩
 ·exact⟨⟨_,_,_,_,undef⟩,h3,.inl ⟨er,h1,h2,rfl⟩,h4⟩
 have:=hb.size;exact⟨⟨_,_,_,_,undef⟩,h2,.inr ⟨G,M,gb,vb,a,c,τ,h1,rfl,h3,h4.down12 this,h5.base (Nat.zero_le _),zQ,zQ⟩,h8⟩
theorem aUr{W:World}{σ:Hs}{fr pt get give n most:Int}:∀(x:V5) (w w':World),aJa W σ fr pt get give n most x w→Below w.heap.size w w'→aJa W σ fr pt get give n most x w':=fun x w w' h k=>
 h.imp id fun⟨G,M,gb,vb,a,c,τ,h1,h2,h3⟩=>⟨G,M,gb,vb,a,c,τ,h1,h2,h3.below k⟩
theorem swapR_fill{W:World}{σ:Hs}{fr pt get give n most:Int}{zs:Array Value}{cs:V5→Array Value}:∀(x:V5) (w:World) (g:Nat),aJa W σ fr pt get give n most x w→Blk w g zs 80→aJa W σ fr pt get give n most x (w.setRow g (cs x)):=fun x w g h k=>
 h.imp id fun⟨G,M,gb,vb,a,c,τ,h1,h2,h3⟩=>⟨G,M,gb,vb,a,c,τ,h1,h2,h3.aside k (aAc _ _) zX zX zX zX⟩
theorem aUs{W:World}{σ:Hs}{fr pt get give n most:Int}{x:V5}{w:World}(h:aJa W σ fr pt get give n most x w):(#[x.a,x.b]:Array Value).all (·.oneCell')=true:=by
 rcases h with⟨_,_,_,rfl⟩|⟨_,_,_,_,_,_,_,_,rfl,_⟩ <;> simp[Value.oneCell']
theorem mswap_any(HMy:aCk)(HDo:aD4)(HCp:aDx)(h:MM w D k G M gb vb σ)(hD:aE9 D w)(hi:HInv σ){a b c d n mx nu de se:Int}(hs:Stp.Fits ⟨4,a,b,c,d,n,mx,nu,de,se⟩):
  Calls Tryz.prog 118 #[.pointer (some ⟨k,0,none⟩),.agg #[.int .u8 4,.int .u8 a,.int .u8 b,.int .u8 c,.int .u8 d,.int .i64 n,.int .i64 mx,.int .i64 nu,.int .i64 de,.int .u64 se]] w (aBp w D k σ ⟨4,a,b,c,d,n,mx,nu,de,se⟩):=by
 obtain⟨KS,H1,BX,LT⟩:=mbox h hD #[.int .u8 4,.int .u8 a,.int .u8 b,.int .u8 c,.int .u8 d,.int .i64 n,.int .i64 mx,.int .i64 nu,.int .i64 de,.int .u64 se] 87;have II:=yH hi;have FF:=yH hs;have SF:Hid (aAx σ ⟨4,a,b,c,d,n,mx,nu,de,se⟩=if(aDu σ.ps σ.ls σ.l a b c d n mx).1=0 then(⟨σ.ps,(aDu σ.ps σ.ls σ.l a b c d n mx).2.ls,(aDu σ.ps σ.ls σ.l a b c d n mx).2.l,σ.N⟩,⟨((aDu σ.ps σ.ls σ.l a b c d n mx).2.fs.map Fl.gi).sum,(aDu σ.ps σ.ls σ.l a b c d n mx).2.fs.length⟩,0)else(σ,⟨0,0⟩,(aDu σ.ps σ.ls σ.l a b c d n mx).1)):=yH rfl;clear h hD hi hs;go_enter Tryz.func118,Tryz.ntmps118
 go_upto_region 1 with fail
 generalize w.alloc (.cells #[.int .u8 4,.int .u8 a,.int .u8 b,.int .u8 c,.int .u8 d,.int .i64 n,.int .i64 mx,.int .i64 nu,.int .i64 de,.int .u64 se] 87)=W at *;have m0:=H1.o.blk.cell 0;have m1:=H1.o.blk.cell 1;have ml:=H1.o.blk.lt;have sl:=KS.o.lt;have s1:=KS.o.cell 1;have s2:=KS.o.cell 2;have s3:=KS.o.cell 3;have s4:=KS.o.cell 4;have s5:=KS.o.cell 5;have s6:=KS.o.cell 6;simp at m0 m1 s1 s2 s3 s4 s5 s6;refine aFc zW (fun s:GV=>[.pointer (some ⟨k,0,none⟩),.pointer (some ⟨k,0,none⟩),.pointer (some ⟨k,0,none⟩),.agg #[(.pointer (some ⟨G,0,none⟩)),(.pointer (some ⟨gb,0,none⟩))],.pointer (some ⟨w.heap.size,1,none⟩),.int .u8 a,.pointer (some ⟨w.heap.size,2,none⟩),.int .u8 b,.pointer (some ⟨w.heap.size,3,none⟩),.int .u8 c,.pointer (some ⟨w.heap.size,4,none⟩),.int .u8 d,.pointer (some ⟨w.heap.size,5,none⟩),.int .i64 n,.pointer (some ⟨w.heap.size,6,none⟩),.int .i64 mx,.tuple #[.agg #[s.v.a,s.v.b],s.v.c,s.v.d],.tuple #[.agg #[s.v.a,s.v.b],s.v.c,s.v.d],.agg #[s.v.a,s.v.b],s.v.c,s.v.d,.pointer (some ⟨s.g,0,none⟩),undef,s.v.c,s.v.d]) (LayI 16 21 22 W 80 #[.pointer none,.pointer none] (fun x=>#[x.a,x.b]) (aJa W σ a b c d n mx)) zW ⟨0,noV⟩ LayI.start ?_;intro AF hAF;simp only[yG,List.append_eq,List.cons_append,List.nil_append,puts,Act.put,yA,yC,yF,yD,yE]at hAF;have hAF2:_=AF:=funext hAF;subst hAF2;clear hAF;refine⟨?_,?_⟩
 ·simp only[yG,List.append_eq,List.cons_append,List.nil_append,aO7];refine⟨?_,?_,?_,?_,?_,?_,?_,?_,?_,?_,?_,?_,?_,?_,?_,?_,?_,?_,?_,?_,?_,?_,?_,?_,?_,trivial⟩
  iterate 16 (· intro s D w' hD hW hC hI;refine .inl ⟨s,fun _ _ _=>rfl,?_⟩;with_reducible refine yO ?_ ?_;exact rfl;have HS:=yH (fun k hk=>LayI.keep hI k hk);have hb:=hI.old;have t0:=(hb.cell (p:=⟨k,0,none⟩) ml).trans m0;have t1:=(hb.cell (p:=⟨k,1,none⟩) ml).trans m1;have t2:=(hb.cell (p:=⟨w.heap.size,1,none⟩) sl).trans s1;have t3:=(hb.cell (p:=⟨w.heap.size,2,none⟩) sl).trans s2;have t4:=(hb.cell (p:=⟨w.heap.size,3,none⟩) sl).trans s3;have t5:=(hb.cell (p:=⟨w.heap.size,4,none⟩) sl).trans s4;have t6:=(hb.cell (p:=⟨w.heap.size,5,none⟩) sl).trans s5;have t7:=(hb.cell (p:=⟨w.heap.size,6,none⟩) sl).trans s6;have l0:=yM ml hb.size;have l1:=yM sl hb.size;clear hI hC hW hD hb;go_wp2_with fail;all_goals first|exact HS.o _ zX|exact⟨rfl,HS.o _ zX⟩|rfl)
  ·intro s D w' hD hW hC hI;have hE:D 22=false:=aAd hC hD 22 zW;refine .inr ?_;with_reducible refine aGs.plain ?_ ?_
   exact rfl;have hb:=hI.old;have HC:=yH ((pswap_any HMy HDo HCp (H1.o.below hb).led II.o.li (H1.o.below hb).pb II.o.bi a b c d n mx FF.o.a FF.o.b FF.o.c FF.o.d).mono (fun e w'' h=>swap_res hb h));have HI:=yH hI;have HCl:=yH hC;have HD:=yH hD;have HE:=yH hE;clear hI hC hW hD hb hE;go_wp2_with fail;refine HC.o.mono ?_;rintro e w'' ⟨x,rfl,hR,hb2⟩;refine aJ5 (.tuple #[.agg #[x.a,x.b],x.c,x.d]) rfl ⟨⟨s.g,x⟩,?_,rfl,LayI.call HI.o zX HE.o x hR hb2⟩;intro j hj hD'
   match j,hj with
   | 0,_|1,_|2,_|3,_|4,_|5,_|6,_|7,_|8,_|9,_|10,_|11,_|12,_|13,_|14,_|15,_|21,_|22,_=>rfl
   | 16,_=>exact absurd hD' yQ
   | 17,_=>exact absurd hD' (by rw[aAd HCl.o HD.o 17 zW];exact Bool.false_ne_true)
   | 18,_=>exact absurd hD' (by rw[aAd HCl.o HD.o 18 zW];exact Bool.false_ne_true)
   | 19,_=>exact absurd hD' (by rw[aAd HCl.o HD.o 19 zW];exact Bool.false_ne_true)
   | 20,_=>exact absurd hD' (by rw[aAd HCl.o HD.o 20 zW];exact Bool.false_ne_true)
   | 23,_=>exact absurd hD' (by rw[aAd HCl.o HD.o 23 zW];exact Bool.false_ne_true)
   | 24,_=>exact absurd hD' (by rw[aAd HCl.o HD.o 24 zW];exact Bool.false_ne_true)
   | j+25,_=>rfl
  iterate 4 (· intro s D w' hD hW hC hI;refine .inl ⟨s,fun _ _ _=>rfl,?_⟩;with_reducible refine yO ?_ ?_;exact rfl;have HS:=yH (fun k hk=>LayI.keep hI k hk);clear hI hC hW hD;go_wp2_with fail;all_goals first|exact HS.o _ zX|exact⟨rfl,HS.o _ zX⟩|rfl)
  ·intro s D w' hD hW hC hI;have hE:D 22=false:=aAd hC hD 22 zW;have HD:=yH hD;refine .inl ⟨⟨w'.heap.size,s.v⟩,?_,?_⟩
   ·intro j hj hD'
    match j,hj with
    | 0,_|1,_|2,_|3,_|4,_|5,_|6,_|7,_|8,_|9,_|10,_|11,_|12,_|13,_|14,_|15,_|16,_|17,_|18,_|19,_|20,_|22,_|23,_|24,_=>rfl
    | 21,_=>exact absurd hD' yQ
    | j+25,_=>rfl
   with_reducible refine yO ?_ ?_;exact rfl;have HS:=yH (LayI.lay hI zX hE aUr);clear hI hC hW hD hE;go_wp2_with fail;all_goals first|exact HS.o|exact⟨rfl,HS.o⟩|rfl
  ·intro s D w' hD hW hC hI;have hc:D 16=true:=aA8 hC hW zW;have hd:D 21=true:=aA8 hC hW zW;have hk:=hI.blk hd hD;have hRx:=hI.res hc;refine .inl ⟨s,fun _ _ _=>rfl,?_⟩;with_reducible refine yO rfl ?_
   refine wp_store_row 80 (.tmp 7) (.tmp 27) rfl s.g ((fun x=>#[x.a,x.b]) s.v) rfl rfl 80 _ hk.out zW rfl (aUs hRx) ⟨rfl,?_⟩;exact LayI.fill hI zX hc hd hD swapR_fill
  iterate 2 (· intro s D w' hD hW hC hI;refine .inl ⟨s,fun _ _ _=>rfl,?_⟩;with_reducible refine yO ?_ ?_;exact rfl;have HS:=yH (fun k hk=>LayI.keep hI k hk);clear hI hC hW hD;go_wp2_with fail;all_goals first|exact HS.o _ zX|exact⟨rfl,HS.o _ zX⟩|rfl)
 intro s DD w1 hall hI;obtain⟨hb,hR,hB⟩:=hI
 replace hR:=hR (hall 16 zX)
 replace hB:=(hB (hall 21 zX)).2
 rw[if_pos (hall 22 zX)]at hB;dsimp only at hB;clear hall;obtain⟨g,x⟩:=s;rcases hR with⟨er,h1,h2,rfl⟩|⟨G2,M2,gb2,vb2,ao,cap,τ,h1,rfl,h2⟩
 ·have q1:(er != 0)=true:=zR
  have SE:=yH (show aAx σ ⟨4,a,b,c,d,n,mx,nu,de,se⟩=(σ,⟨0,0⟩,er)from SF.o.trans (by rw[h2,if_neg h1]));clear h1 h2;go_wp2_with fail;refine bodyPost_ret (v:=.tuple #[.int .i64 0,.int .i64 0,.int .i64 er]) (by simp[results,Tryz.results118,go_sem]) rfl ?_;exact aBp.of SE.o rfl ⟨H1.o.below hb,BX.o.trans (pAD hb)⟩
 have SE:=yH (show aAx σ ⟨4,a,b,c,d,n,mx,nu,de,se⟩=(⟨σ.ps,τ.ls,τ.l,σ.N⟩,⟨(τ.fs.map Fl.gi).sum,τ.fs.length⟩,0)from SF.o.trans (by rw[h1,if_pos rfl]));have DN:=yH (aOw II.o.li II.o.bi h1);have HH:=yH h2;have B1:=yH hb;have HK:=yH (H1.o.blk.below hb ml);clear h1 h2 SF hb;have b0:=hB.cell 0;have b1:=hB.cell 1;simp at b0 b1;go_wp2_with (refine aAa rfl 80 (.tmp 36) (.tmp 34) rfl k #[.pointer (some ⟨G2,0,none⟩),.pointer (some ⟨gb2,0,none⟩)] rfl rfl 82 _ HK.o.out zW rfl zK ?_);have kk:=aAc (w:=w1) k #[.pointer (some ⟨G2,0,none⟩),.pointer (some ⟨gb2,0,none⟩)];have HK2:=yH (show Blk (w1.setRow k #[.pointer (some ⟨G2,0,none⟩),.pointer (some ⟨gb2,0,none⟩)]) k _ 82 from setRow_heap w1 k _ _ _ (0,0) HK.o.out);have MH:=yH (H1.o.house (τ:=⟨σ.ps,τ.ls,τ.l,σ.N⟩) LT.o B1.o HH.o.led HH.o.pb HH.o.g0 HH.o.m0 kk HK2.o);have FI:=yH (aNm (HH.o.aside HK.o kk zX zX zX zX).row);have hl:=DN.o.len;obtain⟨ao',cap',hv,hc1,hc2,_⟩:=HH.o.row.look
 cases hv
 obtain⟨g1,g2⟩:=DN.o.inv.given_bd;have GV:=yH (show okN (τ.fs.map Fl.gi).sum=(τ.fs.map Fl.gi).sum from if_pos ⟨zQ,zQ⟩);have CG:=yH (aSe FI.o (fun f hf=>by obtain⟨_,_,_,_,_,_,_,h1,h2⟩:=DN.o.inv.fs f hf;exact⟨zQ,zQ⟩) zQ hc1 hc2);clear hl hc1 hc2 g1 g2 b0 b1 kk hB;generalize w1.setRow k #[.pointer (some ⟨G2,0,none⟩),.pointer (some ⟨gb2,0,none⟩)]=w2 at *;refine CG.o.mono ?_;rintro e w3 ⟨rfl,b3⟩;rw[GV.o];go_wp2_with fail;refine bodyPost_ret (v:=.tuple #[.int .i64 (τ.fs.map Fl.gi).sum,.int .i64 τ.fs.length,.int .i64 0]) (by simp[results,Tryz.results118,go_sem]) rfl ?_;exact aBp.of SE.o rfl ⟨MH.o.1.below b3,BX.o.trans (MH.o.2.trans (pAD b3))⟩
def aGr(W:World)(σ:Hs)(a c d n nu de:Int)(x:V5)(w:World):Prop:=
 (∃er,er≠0∧(aBv σ.ps σ.ls σ.l σ.N a c d n nu de).1=er∧x=⟨.pointer none,.pointer none,.slice none 0 0,.int .u64 0,.int .i64 er⟩)∨
 (∃G M gb vb ao cp τ N' sq,aBv σ.ps σ.ls σ.l σ.N a c d n nu de=(0,τ,N',sq)∧x=⟨.pointer (some ⟨G,0,none⟩),.pointer (some ⟨gb,0,none⟩),.slice ao τ.fs.length cp,.int .u64 sq,.int .i64 0⟩∧Hin W w σ.ps τ.ls τ.l N' a a τ.fs G M gb vb (.slice ao τ.fs.length cp))
theorem place_res{W w w':World}{σ:Hs}{a c d n nu de:Int}{e:Ending}(hb:Below W.heap.size W w)(h:PPlc w σ.ps σ.ls σ.l σ.N ⟨0,a,c,d,n,nu,de⟩ e w'):∃x:V5,e=.returned (.tuple #[.agg #[x.a,x.b],x.c,x.d,x.e])∧aGr W σ a c d n nu de x w'∧Below w.heap.size w w':=by
 rcases h with⟨er,h1,h2,h3,h4⟩|⟨G,M,gb,vb,ao,cp,τ,N',sq,h1,h2,h3,h4,h5,h6,h7,h8⟩
 ·exact⟨⟨_,_,_,_,_⟩,h3,.inl ⟨er,h1,h2,rfl⟩,h4⟩
 have:=hb.size;exact⟨⟨_,_,_,_,_⟩,h2,.inr ⟨G,M,gb,vb,ao,cp,τ,N',sq,h1,rfl,h3,h4.down12 this,h5.base (Nat.zero_le _),zQ,zQ⟩,h8⟩
theorem aSm{W:World}{σ:Hs}{a c d n nu de:Int}:∀(x:V5) (w w':World),aGr W σ a c d n nu de x w→Below w.heap.size w w'→aGr W σ a c d n nu de x w':=fun x w w' h k=>
 h.imp id fun⟨G,M,gb,vb,ao,cp,τ,N',sq,h1,h2,h3⟩=>⟨G,M,gb,vb,ao,cp,τ,N',sq,h1,h2,h3.below k⟩
theorem aUt{W:World}{σ:Hs}{a c d n nu de:Int}{zs:Array Value}{cs:V5→Array Value}:∀(x:V5) (w:World) (g:Nat),aGr W σ a c d n nu de x w→Blk w g zs 80→aGr W σ a c d n nu de x (w.setRow g (cs x)):=fun x w g h k=>
 h.imp id fun⟨G,M,gb,vb,ao,cp,τ,N',sq,h1,h2,h3⟩=>⟨G,M,gb,vb,ao,cp,τ,N',sq,h1,h2,h3.aside k (aAc _ _) zX zX zX zX⟩
theorem aSn{W:World}{σ:Hs}{a c d n nu de:Int}{x:V5}{w:World}(h:aGr W σ a c d n nu de x w):(#[x.a,x.b]:Array Value).all (·.oneCell')=true:=by
 rcases h with⟨_,_,_,rfl⟩|⟨_,_,_,_,_,_,_,_,_,_,rfl,_⟩ <;> simp[Value.oneCell']
def GotAt(W:World)(fs:List Fl)(t i:Value)(wr:World):Prop:=∃j:Nat,j≤fs.length∧i=.int .i64 j∧t=.int .i64 ((fs.take j).map Fl.got).sum∧Below W.heap.size W wr
theorem got_bd:∀(fs:List Fl),(∀f∈fs,1≤f.got∧f.got≤1099511627776)→0≤(fs.map Fl.got).sum∧(fs.map Fl.got).sum≤1099511627776*(fs.length:Int)
 | [],_=>zV
 | f::r,h=>by
  have h1:=h f zV;have h2:=got_bd r (fun g hg=>h g (by simp[hg]));rw[List.map_cons,List.sum_cons,List.length_cons];omega
theorem mplace_any(HMy:aCk)(HDo:aD4)(HCp:aDx)(h:MM w D k G M gb vb σ)(hD:aE9 D w)(hi:HInv σ){a b c d n mx nu de se:Int}(hs:Stp.Fits ⟨5,a,b,c,d,n,mx,nu,de,se⟩):
  Calls Tryz.prog 119 #[.pointer (some ⟨k,0,none⟩),.agg #[.int .u8 5,.int .u8 a,.int .u8 b,.int .u8 c,.int .u8 d,.int .i64 n,.int .i64 mx,.int .i64 nu,.int .i64 de,.int .u64 se]] w (aBp w D k σ ⟨5,a,b,c,d,n,mx,nu,de,se⟩):=by
 obtain⟨KS,H1,BX,LT⟩:=mbox h hD #[.int .u8 5,.int .u8 a,.int .u8 b,.int .u8 c,.int .u8 d,.int .i64 n,.int .i64 mx,.int .i64 nu,.int .i64 de,.int .u64 se] 87;have II:=yH hi;have FF:=yH hs;have SF:Hid (aAx σ ⟨5,a,b,c,d,n,mx,nu,de,se⟩=if(aBv σ.ps σ.ls σ.l σ.N a c d n nu de).1=0 then(⟨σ.ps,(aBv σ.ps σ.ls σ.l σ.N a c d n nu de).2.1.ls,(aBv σ.ps σ.ls σ.l σ.N a c d n nu de).2.1.l,(aBv σ.ps σ.ls σ.l σ.N a c d n nu de).2.2.1⟩,⟨((aBv σ.ps σ.ls σ.l σ.N a c d n nu de).2.1.fs.map Fl.got).sum,IntKind.i64.wrap (aBv σ.ps σ.ls σ.l σ.N a c d n nu de).2.2.2⟩,0)else(σ,⟨0,0⟩,(aBv σ.ps σ.ls σ.l σ.N a c d n nu de).1)):=yH rfl;clear h hD hi hs;go_enter Tryz.func119,Tryz.ntmps119
 go_upto_region 1 with fail
 generalize w.alloc (.cells #[.int .u8 5,.int .u8 a,.int .u8 b,.int .u8 c,.int .u8 d,.int .i64 n,.int .i64 mx,.int .i64 nu,.int .i64 de,.int .u64 se] 87)=W0 at *;have s1:=KS.o.cell 1;have s3:=KS.o.cell 3;have s4:=KS.o.cell 4;have s5:=KS.o.cell 5;have s7:=KS.o.cell 7;have s8:=KS.o.cell 8;simp at s1 s3 s4 s5 s7 s8
 go_upto_region 2 with(refine aAa rfl 75 (.tmp 7) (.tmp 23) rfl W0.heap.size #[.int .u64 0,.int .u8 a,.int .u8 c,.int .u8 d,.int .i64 n,.int .i64 nu,.int .i64 de] rfl rfl 75 _ (Blk.new W0 #[.int .u64 0,.int .u8 0,.int .u8 0,.int .u8 0,.int .i64 0,.int .i64 0,.int .i64 0] 75).out zW rfl zK ?_)
 have b2:Below W0.heap.size W0 ((W0.alloc (.cells #[.int .u64 0,.int .u8 0,.int .u8 0,.int .u8 0,.int .i64 0,.int .i64 0,.int .i64 0] 75)).setRow W0.heap.size #[.int .u64 0,.int .u8 a,.int .u8 c,.int .u8 d,.int .i64 n,.int .i64 nu,.int .i64 de]):=below_setRow ((Below.refl W0.heap.size W0).alloc yL (.cells #[.int .u64 0,.int .u8 0,.int .u8 0,.int .u8 0,.int .i64 0,.int .i64 0,.int .i64 0] 75)) yL _;have KO:=yH (show Blk ((W0.alloc (.cells #[.int .u64 0,.int .u8 0,.int .u8 0,.int .u8 0,.int .i64 0,.int .i64 0,.int .i64 0] 75)).setRow W0.heap.size #[.int .u64 0,.int .u8 a,.int .u8 c,.int .u8 d,.int .i64 n,.int .i64 nu,.int .i64 de]) W0.heap.size #[.int .u64 0,.int .u8 a,.int .u8 c,.int .u8 d,.int .i64 n,.int .i64 nu,.int .i64 de] 75 from setRow_heap _ _ _ _ _ (0,0) (Blk.new W0 #[.int .u64 0,.int .u8 0,.int .u8 0,.int .u8 0,.int .i64 0,.int .i64 0,.int .i64 0] 75).out);generalize (W0.alloc (.cells #[.int .u64 0,.int .u8 0,.int .u8 0,.int .u8 0,.int .i64 0,.int .i64 0,.int .i64 0] 75)).setRow W0.heap.size #[.int .u64 0,.int .u8 a,.int .u8 c,.int .u8 d,.int .i64 n,.int .i64 nu,.int .i64 de]=W at *
 replace H1:=yH (H1.o.below b2)
 replace BX:Hid (Keep D w W):=yH (BX.o.trans (pAD b2))
 replace LT:=yH (LT.o.of_le b2.size)
 clear b2 s1 s3 s4 s5 s7 s8 KS;have m0:=H1.o.blk.cell 0;have m1:=H1.o.blk.cell 1;have ml:=H1.o.blk.lt;have sl:=KO.o.lt;have o0:=KO.o.cell 0;have o1:=KO.o.cell 1;have o2:=KO.o.cell 2;have o3:=KO.o.cell 3;have o4:=KO.o.cell 4;have o5:=KO.o.cell 5;have o6:=KO.o.cell 6;simp at m0 m1 o0 o1 o2 o3 o4 o5 o6;refine aFc zW (fun s:GV=>[.pointer (some ⟨k,0,none⟩),.pointer (some ⟨k,0,none⟩),.pointer (some ⟨k,0,none⟩),.agg #[(.pointer (some ⟨G,0,none⟩)),(.pointer (some ⟨gb,0,none⟩))],.agg #[.int .u64 0,.int .u8 a,.int .u8 c,.int .u8 d,.int .i64 n,.int .i64 nu,.int .i64 de],.tuple #[.agg #[s.v.a,s.v.b],s.v.c,s.v.d,s.v.e],.tuple #[.agg #[s.v.a,s.v.b],s.v.c,s.v.d,s.v.e],.agg #[s.v.a,s.v.b],s.v.c,s.v.d,s.v.e,.pointer (some ⟨s.g,0,none⟩),undef,s.v.c,s.v.d,s.v.e]) (LayI 5 11 12 W 80 #[.pointer none,.pointer none] (fun x=>#[x.a,x.b]) (aGr W σ a c d n nu de)) zW ⟨0,noV⟩ LayI.start ?_;intro AF hAF;simp only[yG,List.append_eq,List.cons_append,List.nil_append,puts,Act.put,yA,yC,yF,yD,yE]at hAF;have hAF2:_=AF:=funext hAF;subst hAF2;clear hAF;refine⟨?_,?_⟩
 ·simp only[yG,List.append_eq,List.cons_append,List.nil_append,aO7];refine⟨?_,?_,?_,?_,?_,?_,?_,?_,?_,?_,?_,?_,?_,?_,?_,?_,trivial⟩
  iterate 5 (· intro s D w' hD hW hC hI;refine .inl ⟨s,fun _ _ _=>rfl,?_⟩;with_reducible refine yO ?_ ?_;exact rfl;have HS:=yH (fun k hk=>LayI.keep hI k hk);have hb:=hI.old;have t0:=(hb.cell (p:=⟨k,0,none⟩) ml).trans m0;have t1:=(hb.cell (p:=⟨k,1,none⟩) ml).trans m1;have t2:=(hb.cell (p:=⟨W0.heap.size,0,none⟩) sl).trans o0;have t3:=(hb.cell (p:=⟨W0.heap.size,1,none⟩) sl).trans o1;have t4:=(hb.cell (p:=⟨W0.heap.size,2,none⟩) sl).trans o2;have t5:=(hb.cell (p:=⟨W0.heap.size,3,none⟩) sl).trans o3;have t6:=(hb.cell (p:=⟨W0.heap.size,4,none⟩) sl).trans o4;have t7:=(hb.cell (p:=⟨W0.heap.size,5,none⟩) sl).trans o5;have t8:=(hb.cell (p:=⟨W0.heap.size,6,none⟩) sl).trans o6;have l0:=yM ml hb.size;have l1:=yM sl hb.size;clear hI hC hW hD hb;go_wp2_with fail;all_goals first|exact HS.o _ zX|exact⟨rfl,HS.o _ zX⟩|rfl)
  ·intro s D w' hD hW hC hI;have hE:D 12=false:=aAd hC hD 12 zW;refine .inr ?_;with_reducible refine aGs.plain ?_ ?_
   exact rfl;have hb:=hI.old;have HC:=yH ((pplc_any HMy HDo HCp (H1.o.below hb).led II.o.li (H1.o.below hb).pb II.o.bi ⟨0,a,c,d,n,nu,de⟩ ⟨(show(0:Int)≤0∧(0:Int)≤18446744073709551615 by decide),FF.o.a,FF.o.c,FF.o.d,FF.o.n,FF.o.nu,FF.o.de⟩).mono (fun e w'' h=>place_res hb h));have HI:=yH hI;have HCl:=yH hC;have HD:=yH hD;have HE:=yH hE;clear hI hC hW hD hb hE;go_wp2_with fail;refine HC.o.mono ?_;rintro e w'' ⟨x,rfl,hR,hb2⟩;refine aJ5 (.tuple #[.agg #[x.a,x.b],x.c,x.d,x.e]) rfl ⟨⟨s.g,x⟩,?_,rfl,LayI.call HI.o zX HE.o x hR hb2⟩;intro j hj hD'
   match j,hj with
   | 0,_|1,_|2,_|3,_|4,_|11,_|12,_=>rfl
   | 5,_=>exact absurd hD' yQ
   | 6,_=>exact absurd hD' (by rw[aAd HCl.o HD.o 6 zW];exact Bool.false_ne_true)
   | 7,_=>exact absurd hD' (by rw[aAd HCl.o HD.o 7 zW];exact Bool.false_ne_true)
   | 8,_=>exact absurd hD' (by rw[aAd HCl.o HD.o 8 zW];exact Bool.false_ne_true)
   | 9,_=>exact absurd hD' (by rw[aAd HCl.o HD.o 9 zW];exact Bool.false_ne_true)
   | 10,_=>exact absurd hD' (by rw[aAd HCl.o HD.o 10 zW];exact Bool.false_ne_true)
   | 13,_=>exact absurd hD' (by rw[aAd HCl.o HD.o 13 zW];exact Bool.false_ne_true)
   | 14,_=>exact absurd hD' (by rw[aAd HCl.o HD.o 14 zW];exact Bool.false_ne_true)
   | 15,_=>exact absurd hD' (by rw[aAd HCl.o HD.o 15 zW];exact Bool.false_ne_true)
   | j+16,_=>rfl
  iterate 5 (· intro s D w' hD hW hC hI;refine .inl ⟨s,fun _ _ _=>rfl,?_⟩;with_reducible refine yO ?_ ?_;exact rfl;have HS:=yH (fun k hk=>LayI.keep hI k hk);clear hI hC hW hD;go_wp2_with fail;all_goals first|exact HS.o _ zX|exact⟨rfl,HS.o _ zX⟩|rfl)
  ·intro s D w' hD hW hC hI;have hE:D 12=false:=aAd hC hD 12 zW;have HD:=yH hD;refine .inl ⟨⟨w'.heap.size,s.v⟩,?_,?_⟩
   ·intro j hj hD'
    match j,hj with
    | 0,_|1,_|2,_|3,_|4,_|5,_|6,_|7,_|8,_|9,_|10,_|12,_|13,_|14,_|15,_=>rfl
    | 11,_=>exact absurd hD' yQ
    | j+16,_=>rfl
   with_reducible refine yO ?_ ?_;exact rfl;have HS:=yH (LayI.lay hI zX hE aSm);clear hI hC hW hD hE;go_wp2_with fail;all_goals first|exact HS.o|exact⟨rfl,HS.o⟩|rfl
  ·intro s D w' hD hW hC hI;have hc:D 5=true:=aA8 hC hW zW;have hd:D 11=true:=aA8 hC hW zW;have hk:=hI.blk hd hD;have hRx:=hI.res hc;refine .inl ⟨s,fun _ _ _=>rfl,?_⟩;with_reducible refine yO rfl ?_
   refine wp_store_row 80 (.tmp 8) (.tmp 31) rfl s.g ((fun x=>#[x.a,x.b]) s.v) rfl rfl 80 _ hk.out zW rfl (aSn hRx) ⟨rfl,?_⟩;exact LayI.fill hI zX hc hd hD aUt
  iterate 3 (· intro s D w' hD hW hC hI;refine .inl ⟨s,fun _ _ _=>rfl,?_⟩;with_reducible refine yO ?_ ?_;exact rfl;have HS:=yH (fun k hk=>LayI.keep hI k hk);clear hI hC hW hD;go_wp2_with fail;all_goals first|exact HS.o _ zX|exact⟨rfl,HS.o _ zX⟩|rfl)
 intro s DD w1 hall hI;obtain⟨hb,hR,hB⟩:=hI
 replace hR:=hR (hall 5 zX)
 replace hB:=(hB (hall 11 zX)).2
 rw[if_pos (hall 12 zX)]at hB;dsimp only at hB;clear hall;obtain⟨g,x⟩:=s;rcases hR with⟨er,h1,h2,rfl⟩|⟨G2,M2,gb2,vb2,ao,cap,τ,N',sq,h1,rfl,h2⟩
 ·have q1:(er != 0)=true:=zR
  have SE:=yH (show aAx σ ⟨5,a,b,c,d,n,mx,nu,de,se⟩=(σ,⟨0,0⟩,er)from SF.o.trans (by rw[h2,if_neg h1]));clear h1 h2;go_wp2_with fail;refine bodyPost_ret (v:=.tuple #[.int .i64 0,.int .i64 0,.int .i64 er]) (by simp[results,Tryz.results119,go_sem]) rfl ?_;exact aBp.of SE.o rfl ⟨H1.o.below hb,BX.o.trans (pAD hb)⟩
 have SE:=yH (show aAx σ ⟨5,a,b,c,d,n,mx,nu,de,se⟩=(⟨σ.ps,τ.ls,τ.l,N'⟩,⟨(τ.fs.map Fl.got).sum,IntKind.i64.wrap sq⟩,0)from SF.o.trans (by rw[h1,if_pos rfl]))
 have FSI:Hid (τ.fs.length≤64∧∀f∈τ.fs,1≤f.got∧f.got≤1099511627776):=yH (by
  obtain⟨υ,hd⟩:=aI0 II.o.li II.o.bi h1;have e:τ.fs=υ.fs:=by rcases hd.ends with⟨_,rfl,_⟩|⟨_,_,_,rfl,_⟩ <;> rfl
  rw[e];exact⟨hd.inv.len,fun f hf=>by obtain⟨_,_,_,_,_,_,_,h,_⟩:=hd.inv.fs f hf;exact h⟩)
 have HH:=yH h2;have B1:=yH hb;have HK:=yH (H1.o.blk.below hb ml);clear h1 h2 SF hb;have b0:=hB.cell 0;have b1:=hB.cell 1;simp at b0 b1;go_wp2_with (refine aAa rfl 80 (.tmp 41) (.tmp 39) rfl k #[.pointer (some ⟨G2,0,none⟩),.pointer (some ⟨gb2,0,none⟩)] rfl rfl 82 _ HK.o.out zW rfl zK ?_);have kk:=aAc (w:=w1) k #[.pointer (some ⟨G2,0,none⟩),.pointer (some ⟨gb2,0,none⟩)];have HK2:=yH (show Blk (w1.setRow k #[.pointer (some ⟨G2,0,none⟩),.pointer (some ⟨gb2,0,none⟩)]) k _ 82 from setRow_heap w1 k _ _ _ (0,0) HK.o.out);have MH:=yH (H1.o.house (τ:=⟨σ.ps,τ.ls,τ.l,N'⟩) LT.o B1.o HH.o.led HH.o.pb HH.o.g0 HH.o.m0 kk HK2.o);have FI:=yH (aNm (HH.o.aside HK.o kk zX zX zX zX).row);obtain⟨ao',cap',hv,hc1,hc2,_⟩:=HH.o.row.look
 cases hv
 clear hc1 hc2 b0 b1 kk hB;generalize w1.setRow k #[.pointer (some ⟨G2,0,none⟩),.pointer (some ⟨gb2,0,none⟩)]=w2 at *;have hl:=FSI.o.1;go_wp2_with fail
 go_loopw [4,44] (GotAt w2 τ.fs) (fun t i _=>τ.fs.length - (intOf i).toNat)
 case atStart=>exact⟨0,zQ,rfl,rfl,yZ⟩
 obtain⟨j,hj,rfl,rfl,hb⟩:=hrel
 by_cases hjl:j<τ.fs.length
 ·have hji:(j:Int)<(τ.fs.length:Int):=zQ
  have hj0:(0:Int)≤(j:Int):=zQ
  obtain⟨b,rfl,hf⟩:=FI.o j hjl;obtain⟨hbl,hf2⟩:=hf wr hb;have c0:=hf2 0 zX;have c1:=hf2 1 zX;have c2:=hf2 2 zX;have c3:=hf2 3 zX;have c4:=hf2 4 zX;have SB:Hid (((τ.fs.take (j+1)).map Fl.got).sum=((τ.fs.take j).map Fl.got).sum+(τ.fs[j]).got):=yH (by rw[List.take_succ_eq_append_getElem hjl,List.map_append,List.sum_append];simp);have g1:=got_bd (τ.fs.take (j+1)) (fun f hf=>FSI.o.2 f (List.mem_of_mem_take hf));rw[SB.o,List.length_take]at g1;have WR:Hid (wrap64 (((τ.fs.take j).map Fl.got).sum+(τ.fs[j]).got)=((τ.fs.take (j+1)).map Fl.got).sum):=yH (by rw[Go.IntWalk.wrap64_in _ ⟨zQ,zQ⟩,SB.o]);have HJ:=yH hjl;have BW:=yH hb;clear g1 SB hb hf hf2 hj;generalize τ.fs[j]=f at c0 c1 c2 c3 c4 WR;clear hjl;simp[Fl.vals]at c0 c1 c2 c3 c4;generalize ((τ.fs.take j).map Fl.got).sum=sm at WR;have bz:=(Below.refl wr.heap.size wr).alloc yL (.cells #[.int .u64 0,.int .u8 0,.int .u8 0,.int .i64 0,.int .i64 0] 241);have KF:=yH (show Blk ((wr.alloc (.cells #[.int .u64 0,.int .u8 0,.int .u8 0,.int .i64 0,.int .i64 0] 241)).setRow wr.heap.size #[.int .u64 f.se,.int .u8 a,.int .u8 a,.int .i64 f.got,.int .i64 f.gi]) wr.heap.size _ 241 from setRow_heap _ _ _ _ _ (0,0) (Blk.new wr _ _));have BZ:=yH (below_setRow bz (Nat.le_refl wr.heap.size) #[.int .u64 f.se,.int .u8 a,.int .u8 a,.int .i64 f.got,.int .i64 f.gi]);clear bz
  go_upto_region 9 with(refine aAa rfl 241 (.tmp 12) (.tmp 47) rfl wr.heap.size #[.int .u64 f.se,.int .u8 a,.int .u8 a,.int .i64 f.got,.int .i64 f.gi] rfl rfl 241 _ (Blk.new wr #[.int .u64 0,.int .u8 0,.int .u8 0,.int .i64 0,.int .i64 0] 241).out zW rfl zK ?_)
  generalize (wr.alloc (.cells #[.int .u64 0,.int .u8 0,.int .u8 0,.int .i64 0,.int .i64 0] 241)).setRow wr.heap.size #[.int .u64 f.se,.int .u8 a,.int .u8 a,.int .i64 f.got,.int .i64 f.gi]=w4 at *;have f3:=KF.o.cell 3;simp at f3;clear c0 c1 c2 c3 c4;go_wp2_with fail;exact⟨⟨j+1,zQ,by go_num,by rw[←WR.o],andB BW.o BZ.o⟩,zN⟩
 have hjn:j=τ.fs.length:=zQ
 subst hjn;have BW:=yH hb;clear hb hjl hj;rw[List.take_length];go_wp2_with fail;refine bodyPost_ret (v:=.tuple #[.int .i64 (τ.fs.map Fl.got).sum,.int .i64 (IntKind.i64.wrap sq),.int .i64 0]) (by simp[results,Tryz.results119,go_sem];exact(Go.IntWalk.i64_left sq).symm) rfl ?_;exact aBp.of SE.o rfl ⟨MH.o.1.below BW.o,BX.o.trans (MH.o.2.trans (pAD BW.o))⟩
def KS(v:Value):Prop:=∃i,v=.int .u8 i∧In8 i
theorem kindOk:aPk Tryz.prog 85 KS:=pAH (Go.Maps.int_keyed Tryz.underlying85) fun v ⟨i,e,h⟩=>by subst e;exact⟨_,Go.Maps.keyOf_int_mk Tryz.underlying85 (u8_wf h)⟩
def KLt(n:Int)(kvs:List (Value×Value)):Prop:=∀p∈kvs,∃j,p.1=.int .u8 j∧0≤j∧j<n
theorem aCc{w:World}{m:Nat}{kvs:List (Value×Value)}(h:aA6 w m kvs){n n':Int}(v:Value)(hk:KLt n kvs)(h1:0≤n∧n≤200)(hn:n'=n+1):
  ∃w',(Instr.mapUpdate 164 (.map (some m)) (.int .u8 n) v).run Tryz.prog w=.ok () w'∧aA6 w' m (kvs++[(.int .u8 n,v)])∧aC4 m w w'∧KLt n' (kvs++[(.int .u8 n,v)]):=by
 obtain⟨w',e,h2,t⟩:=h.store_new (v:=v) kindOk (fun p hp=>by obtain⟨j,e,a,b⟩:=hk p hp;exact⟨j,e,zQ,zQ⟩) Tryz.underlying164 (key:=.int .u8 n) ⟨n,rfl,zQ,zQ⟩ (fun p hp=>by obtain⟨j,e,a,b⟩:=hk p hp;rw[e];intro q;simp at q;omega);refine⟨w',e,h2,t,fun p hp=>?_⟩;rcases List.mem_append.1 hp with hp|hp
 ·obtain⟨j,e,a,b⟩:=hk p hp;exact⟨j,e,a,zQ⟩
 rw[List.mem_singleton]at hp;subst hp;exact⟨n,rfl,h1.1,zQ⟩
def aCl:List (Value×Value):=[(.int .u8 1,.func (.func 115) #[] #[]),(.int .u8 2,.func (.func 116) #[] #[]),(.int .u8 3,.func (.func 117) #[] #[]),(.int .u8 4,.func (.func 118) #[] #[]),(.int .u8 5,.func (.func 119) #[] #[]),(.int .u8 6,.func (.func 120) #[] #[]),(.int .u8 7,.func (.func 121) #[] #[]),(.int .u8 8,.func (.func 122) #[] #[]),(.int .u8 9,.func (.func 123) #[] #[]),(.int .u8 10,.func (.func 124) #[] #[]),(.int .u8 11,.func (.func 125) #[] #[])]
theorem aO1(w:World):Calls Tryz.prog 80 #[] w fun e w'=>e=.returned (.map (some w.heap.size))∧aA6 w' w.heap.size aCl∧Below w.heap.size w w':=by
 have hmm:=@run_makeMap Tryz.prog;have h0:=aA6.made w;obtain⟨w1,e1,h1,t1,k1⟩:=aCc h0 (n:=1) (n':=2) (.func (.func 115) #[] #[]) (fun p hp=>by cases hp) ⟨zX,zX⟩ rfl;obtain⟨w2,e2,h2,t2,k2⟩:=aCc h1 (n:=2) (n':=3) (.func (.func 116) #[] #[]) k1 ⟨zX,zX⟩ rfl;obtain⟨w3,e3,h3,t3,k3⟩:=aCc h2 (n:=3) (n':=4) (.func (.func 117) #[] #[]) k2 ⟨zX,zX⟩ rfl;obtain⟨w4,e4,h4,t4,k4⟩:=aCc h3 (n:=4) (n':=5) (.func (.func 118) #[] #[]) k3 ⟨zX,zX⟩ rfl;obtain⟨w5,e5,h5,t5,k5⟩:=aCc h4 (n:=5) (n':=6) (.func (.func 119) #[] #[]) k4 ⟨zX,zX⟩ rfl;obtain⟨w6,e6,h6,t6,k6⟩:=aCc h5 (n:=6) (n':=7) (.func (.func 120) #[] #[]) k5 ⟨zX,zX⟩ rfl;obtain⟨w7,e7,h7,t7,k7⟩:=aCc h6 (n:=7) (n':=8) (.func (.func 121) #[] #[]) k6 ⟨zX,zX⟩ rfl;obtain⟨w8,e8,h8,t8,k8⟩:=aCc h7 (n:=8) (n':=9) (.func (.func 122) #[] #[]) k7 ⟨zX,zX⟩ rfl;obtain⟨w9,e9,h9,t9,k9⟩:=aCc h8 (n:=9) (n':=10) (.func (.func 123) #[] #[]) k8 ⟨zX,zX⟩ rfl;obtain⟨w10,e10,h10,t10,k10⟩:=aCc h9 (n:=10) (n':=11) (.func (.func 124) #[] #[]) k9 ⟨zX,zX⟩ rfl;obtain⟨w11,e11,h11,t11,k11⟩:=aCc h10 (n:=11) (n':=12) (.func (.func 125) #[] #[]) k10 ⟨zX,zX⟩ rfl;have BB:Below w.heap.size w w11:=(yZ.alloc yL (.map #[] 0)).trans (((((((((((t1.keep.trans t2.keep).trans t3.keep).trans t4.keep).trans t5.keep).trans t6.keep).trans t7.keep).trans t8.keep).trans t9.keep).trans t10.keep).trans t11.keep).below zV (fun j hj e=>zQ));have HH:=yH h11;have BB:=yH BB;clear h0 h1 h2 h3 h4 h5 h6 h7 h8 h9 h10 k1 k2 k3 k4 k5 k6 k7 k8 k9 k10 t11 k11;go_enter Tryz.func80,Tryz.ntmps80;go_wp2;go_ret;exact⟨rfl,HH.o,BB.o⟩
def KdBy(σ:Hs)(s:Stp)(f:Nat):Prop:=(.int .u8 s.kd,.func (.func f) #[] #[])∈aCl∧(∀args w',(callFunc f args).run Tryz.prog w'=.ok (.enter f args) w')∧
 ∀{w:World} {D:Nat→Prop} {k G M gb:Nat} {vb:Value},MM w D k G M gb vb σ→aE9 D w→Calls Tryz.prog f #[.pointer (some ⟨k,0,none⟩),.agg #[.int .u8 s.kd,.int .u8 s.a,.int .u8 s.b,.int .u8 s.c,.int .u8 s.d,.int .i64 s.n,.int .i64 s.mx,.int .i64 s.nu,.int .i64 s.de,.int .u64 s.se]] w (aBp w D k σ s)
def KdAns(s:Stp):Prop:=∀σ:Hs,HInv σ→s.Fits→(∃f,KdBy σ s f)∨((∀p∈aCl,p.1≠.int .u8 s.kd)∧aAx σ s=(σ,⟨0,0⟩,1))
theorem kd_by(HR:aEe)(HN:aT6)(HMy:aCk)(HD:aD4)(HCp:aDx)(s:Stp):KdAns s:=fun σ hi hs=>by
 obtain⟨kd,a,b,c,d,n,mx,nu,de,se⟩:=s;rcases kinds kd with rfl|rfl|rfl|rfl|rfl|rfl|rfl|rfl|rfl|rfl|rfl|⟨k1,k2,k3,k4,k5,k6,k7,k8,k9,k10,k11⟩
 ·exact .inl ⟨115,zM,enters_of Tryz.func115 zW rfl,fun h hD=>aSk h hD hi hs⟩
 ·exact .inl ⟨116,zM,enters_of Tryz.func116 zW rfl,fun h hD=>aO0 h hD hi hs⟩
 ·exact .inl ⟨117,zM,enters_of Tryz.func117 zW rfl,fun h hD=>mpay_any HR h hD hi hs⟩
 ·exact .inl ⟨118,zM,enters_of Tryz.func118 zW rfl,fun h hD=>mswap_any HMy HD HCp h hD hi hs⟩
 ·exact .inl ⟨119,zM,enters_of Tryz.func119 zW rfl,fun h hD=>mplace_any HMy HD HCp h hD hi hs⟩
 ·exact .inl ⟨120,zM,enters_of Tryz.func120 zW rfl,fun h hD=>aUq h hD hi hs⟩
 ·exact .inl ⟨121,zM,enters_of Tryz.func121 zW rfl,fun h hD=>mnet_any HN h hD hi hs⟩
 ·exact .inl ⟨122,zM,enters_of Tryz.func122 zW rfl,fun h hD=>aSl h hD hi hs⟩
 ·exact .inl ⟨123,zM,enters_of Tryz.func123 zW rfl,fun h hD=>aJ6 h hD hi hs⟩
 ·exact .inl ⟨124,zM,enters_of Tryz.func124 zW rfl,fun h hD=>mtotal_any h hD hi hs⟩
 ·exact .inl ⟨125,zM,enters_of Tryz.func125 zW rfl,fun h hD=>mleft_any h hD hi hs⟩
 refine .inr ⟨fun p hp e=>?_,by unfold aAx;rw[if_neg k1,if_neg k2,if_neg k3,if_neg k4,if_neg k5,if_neg k6,if_neg k7,if_neg k8,if_neg k9,if_neg k10,if_neg k11]⟩;unfold aCl at hp;simp only[yI,yJ,or_false]at hp;rcases hp with rfl|rfl|rfl|rfl|rfl|rfl|rfl|rfl|rfl|rfl|rfl <;> (simp at e;omega)
theorem kd_few(HR:aEe)(s:Stp)(h:s.kd=1∨s.kd=2∨s.kd=3∨s.kd=8∨s.kd=9):KdAns s:=fun σ hi hs=>by
 obtain⟨kd,a,b,c,d,n,mx,nu,de,se⟩:=s;rcases h with rfl|rfl|rfl|rfl|rfl
 ·exact .inl ⟨115,zM,enters_of Tryz.func115 zW rfl,fun h hD=>aSk h hD hi hs⟩
 ·exact .inl ⟨116,zM,enters_of Tryz.func116 zW rfl,fun h hD=>aO0 h hD hi hs⟩
 ·exact .inl ⟨117,zM,enters_of Tryz.func117 zW rfl,fun h hD=>mpay_any HR h hD hi hs⟩
 ·exact .inl ⟨122,zM,enters_of Tryz.func122 zW rfl,fun h hD=>aSl h hD hi hs⟩
 exact .inl ⟨123,zM,enters_of Tryz.func123 zW rfl,fun h hD=>aJ6 h hD hi hs⟩
theorem kindLt:KLt 12 aCl:=fun p hp=>by
 unfold aCl at hp;simp only[yI,yJ,or_false]at hp;rcases hp with rfl|rfl|rfl|rfl|rfl|rfl|rfl|rfl|rfl|rfl|rfl <;> exact⟨_,rfl,zX,zX⟩
theorem mdo_any(h:MM w D k G M gb vb σ)(hD:aE9 D w)(hi:HInv σ)(s:Stp)(hs:s.Fits)(HK:KdAns s):
  Calls Tryz.prog 50 #[.pointer (some ⟨k,0,none⟩),.agg #[.int .u8 s.kd,.int .u8 s.a,.int .u8 s.b,.int .u8 s.c,.int .u8 s.d,.int .i64 s.n,.int .i64 s.mx,.int .i64 s.nu,.int .i64 s.de,.int .u64 s.se]] w (aBp w D k σ s):=by
 obtain⟨KS1,H1,BX,LT⟩:=mbox h hD #[.int .u8 s.kd,.int .u8 s.a,.int .u8 s.b,.int .u8 s.c,.int .u8 s.d,.int .i64 s.n,.int .i64 s.mx,.int .i64 s.nu,.int .i64 s.de,.int .u64 s.se] 87;have KK:=yH (HK σ hi hs);have hkd:=hs.kd;clear h hD hi hs HK;go_enter Tryz.func50,Tryz.ntmps50
 go_upto_region 1 with fail
 generalize w.alloc (.cells #[.int .u8 s.kd,.int .u8 s.a,.int .u8 s.b,.int .u8 s.c,.int .u8 s.d,.int .i64 s.n,.int .i64 s.mx,.int .i64 s.nu,.int .i64 s.de,.int .u64 s.se] 87)=W at *;have sl:=KS1.o.lt;have s0:=KS1.o.cell 0;simp at s0;have KD:=yH (show KS (.int .u8 s.kd)from⟨_,rfl,hkd⟩);rcases KK.o with⟨f,hf1,hf2,hf3⟩|⟨hn,he⟩
 ·have HF1:=yH hf1;have HF3:Hid (∀(w:World) (D:Nat→Prop) (k G M gb:Nat) (vb:Value),MM w D k G M gb vb σ→aE9 D w→Calls Tryz.prog f #[.pointer (some ⟨k,0,none⟩),.agg #[.int .u8 s.kd,.int .u8 s.a,.int .u8 s.b,.int .u8 s.c,.int .u8 s.d,.int .i64 s.n,.int .i64 s.mx,.int .i64 s.nu,.int .i64 s.de,.int .u64 s.se]] w (aBp w D k σ s)):=yH (fun w D k G M gb vb h hD=>hf3 h hD);clear hf1 hf3 KK;refine aBz zW [(.map (some W.heap.size)),(.pointer (some ⟨w.heap.size,0,none⟩)),(.int .u8 s.kd),(.tuple #[(.func (.func f) #[] #[]),.bool true]),(.tuple #[(.func (.func f) #[] #[]),.bool true]),(.func (.func f) #[] #[]),(.bool true),(.func (.func f) #[] #[]),(.bool true)] (Once 0 (fun w'=>Below W.heap.size W w'∧w'.heap.size=W.heap.size) (fun w''=>Below W.heap.size W w''∧aA6 w'' W.heap.size aCl)) zW (Once.start ⟨yZ.drew,rfl⟩) ?_;intro af haf;simp only[yG,List.append_eq,List.cons_append,List.nil_append,puts,Act.put,yA,yC,yF,yD,yE]at haf;subst haf;refine⟨?_,?_⟩
  ·simp only[yG,List.append_eq,List.cons_append,List.nil_append,aEa];refine⟨?_,?_,?_,?_,?_,?_,?_,?_,?_,trivial⟩
   ·intro D w' hD hW hC hI;have HS:=yH (hI.pre hD);refine yO rfl ?_;clear hI hC hW hD;go_wp2_with fail;refine(aO1 w').mono ?_;rintro e w'' ⟨rfl,hm,b2⟩;rw[HS.o.2]at hm ⊢;exact⟨rfl,Once.done ⟨andB HS.o.1 b2,hm⟩⟩
   ·intro D w' hD hW hC hI;have HS:=yH (fun k (hk:k≠0)=>Once.keep (k:=k) hk hI);refine yO rfl ?_;clear hI hC hW hD;go_wp2_with fail;all_goals first|exact HS.o _ zX|exact⟨rfl,HS.o _ zX⟩|rfl
   ·intro D w' hD hW hC hI;have hb:Below W.heap.size W w':=(by cases h:D 0 with|false=>exact(hI.pre h).1|true=>exact(hI.post h).1);have HS:=yH (fun k (hk:k≠0)=>Once.keep (k:=k) hk hI);refine yO rfl ?_;have t0:=(hb.cell (p:=⟨w.heap.size,0,none⟩) sl).trans s0;clear hI hC hW hD hb;go_wp2_with fail;all_goals first|exact HS.o _ zX|exact⟨rfl,HS.o _ zX⟩|rfl
   ·intro D w' hD hW hC hI;have hP:D 0=true:=aA8 hC hW zW;have hm:=(hI.post hP).2;have HS:=yH (fun k (hk:k≠0)=>Once.keep (k:=k) hk hI);refine yO rfl ?_;have LK:=hm.look_some kindOk (fun p hp=>wU) Tryz.underlying164 KD.o HF1.o true;clear hI hC hW hD hP hm;go_wp2_with fail;all_goals first|exact HS.o _ zX|exact⟨rfl,HS.o _ zX⟩|rfl
   iterate 5 (· intro D w' hD hW hC hI;have HS:=yH (fun k (hk:k≠0)=>Once.keep (k:=k) hk hI);refine yO ?_ ?_;exact rfl;clear hI hC hW hD;go_wp2_with fail;all_goals first|exact HS.o _ zX|exact⟨rfl,HS.o _ zX⟩|rfl)
  intro DD w1 hall hI;have hb:=(hI.post (hall 0 zX)).1;clear hI hall;have k1:=KS1.o.below hb sl;have c0:=k1.cell 0;have c1:=k1.cell 1;have c2:=k1.cell 2;have c3:=k1.cell 3;have c4:=k1.cell 4;have c5:=k1.cell 5;have c6:=k1.cell 6;have c7:=k1.cell 7;have c8:=k1.cell 8;have c9:=k1.cell 9;simp at c0 c1 c2 c3 c4 c5 c6 c7 c8 c9;have CC:=yH (HF3.o w1 D k G M gb vb (H1.o.below hb) (LT.o.of_le hb.size));have BX2:Hid (Keep D w w1):=yH (BX.o.trans (pAD hb));clear k1 s0 hb;go_wp2_with fail;refine CC.o.mono ?_;rintro e w2 ⟨rfl,h1,h2⟩;go_wp2_with fail;refine bodyPost_ret (v:=.tuple #[.int .i64 (aAx σ s).2.1.gx,.int .i64 (aAx σ s).2.1.gy,.int .i64 (aAx σ s).2.2]) (by simp[results,Tryz.results50,go_sem]) rfl ?_;exact⟨rfl,h1,BX2.o.trans h2⟩
 have HN:=yH hn;have HE:=yH he;obtain⟨z,hz⟩:∃z,∀w,(zeroValue 162).run Tryz.prog w=.ok z w:=⟨.nilFunc,fun w=>zW⟩;have HZ:=yH hz;clear hn he KK hz;refine aBz zW [(.map (some W.heap.size)),(.pointer (some ⟨w.heap.size,0,none⟩)),(.int .u8 s.kd),(.tuple #[z,.bool false]),(.tuple #[z,.bool false]),z,(.bool false),z,(.bool false)] (Once 0 (fun w'=>Below W.heap.size W w'∧w'.heap.size=W.heap.size) (fun w''=>Below W.heap.size W w''∧aA6 w'' W.heap.size aCl)) zW (Once.start ⟨yZ.drew,rfl⟩) ?_;intro af haf;simp only[yG,List.append_eq,List.cons_append,List.nil_append,puts,Act.put,yA,yC,yF,yD,yE]at haf;subst haf;refine⟨?_,?_⟩
 ·simp only[yG,List.append_eq,List.cons_append,List.nil_append,aEa];refine⟨?_,?_,?_,?_,?_,?_,?_,?_,?_,trivial⟩
  ·intro D w' hD hW hC hI;have HS:=yH (hI.pre hD);refine yO rfl ?_;clear hI hC hW hD;go_wp2_with fail;refine(aO1 w').mono ?_;rintro e w'' ⟨rfl,hm,b2⟩;rw[HS.o.2]at hm ⊢;exact⟨rfl,Once.done ⟨andB HS.o.1 b2,hm⟩⟩
  ·intro D w' hD hW hC hI;have HS:=yH (fun k (hk:k≠0)=>Once.keep (k:=k) hk hI);refine yO rfl ?_;clear hI hC hW hD;go_wp2_with fail;all_goals first|exact HS.o _ zX|exact⟨rfl,HS.o _ zX⟩|rfl
  ·intro D w' hD hW hC hI;have hb:Below W.heap.size W w':=(by cases h:D 0 with|false=>exact(hI.pre h).1|true=>exact(hI.post h).1);have HS:=yH (fun k (hk:k≠0)=>Once.keep (k:=k) hk hI);refine yO rfl ?_;have t0:=(hb.cell (p:=⟨w.heap.size,0,none⟩) sl).trans s0;clear hI hC hW hD hb;go_wp2_with fail;all_goals first|exact HS.o _ zX|exact⟨rfl,HS.o _ zX⟩|rfl
  ·intro D w' hD hW hC hI;have hP:D 0=true:=aA8 hC hW zW;have hm:=(hI.post hP).2;have HS:=yH (fun k (hk:k≠0)=>Once.keep (k:=k) hk hI);refine yO rfl ?_;have LK:=hm.look_none kindOk (fun p hp=>wU) Tryz.underlying164 (HZ.o _) KD.o HN.o true;clear hI hC hW hD hP hm;go_wp2_with fail;all_goals first|exact HS.o _ zX|exact⟨rfl,HS.o _ zX⟩|rfl
  iterate 5 (· intro D w' hD hW hC hI;have HS:=yH (fun k (hk:k≠0)=>Once.keep (k:=k) hk hI);refine yO ?_ ?_;exact rfl;clear hI hC hW hD;go_wp2_with fail;all_goals first|exact HS.o _ zX|exact⟨rfl,HS.o _ zX⟩|rfl)
 intro DD w1 hall hI;have hb:=(hI.post (hall 0 zX)).1;clear hI hall;go_wp2_with fail;refine bodyPost_ret (v:=.tuple #[.int .i64 0,.int .i64 0,.int .i64 1]) (by simp[results,Tryz.results50,go_sem]) rfl ?_;exact aBp.of HE.o rfl ⟨H1.o.below hb,BX.o.trans (pAD hb)⟩
end
end Go.Proofs.YtngnfdnfpiiclaaGreat
