/- Pieces of one proof. -/
import Derived.Test.YtojbmnbphdcjfaaGreatP29
set_option linter.all false
set_option maxHeartbeats 64000000
set_option maxRecDepth 100000
namespace Go.Proofs.YtojbmnbphdcjfaaGreat
open Go.RowKit
noncomputable def routeS(f:Int→Int→Int)(a b n:Int):RS:=@Classical.epsilon RS ⟨⟨f,n,[]⟩⟩ (fun μ=>aAk f 4398046511104 a b n μ)
theorem aDy{f:Int→Int→Int}(h:GInv f 4398046511104)(a b n:Int):aAk f 4398046511104 a b n (routeS f a b n):=
 @Classical.epsilon_spec RS (fun μ=>aAk f 4398046511104 a b n μ) (aCn h a b n)
noncomputable def aE3(ps:List Int)(ls:List Ln)(c a b:Int):Int:=aBk - (routeS (aBy ps ls c) a b aBk).left
theorem goesS{ps:List Int}{ls:List Ln}(h:LInv ps ls)(o:Of)(tk pt:Int):Goes ps ls o tk pt (aE3 ps ls o.sl o.ow pt) (aE3 ps ls o.bu tk o.ow):=
 ⟨⟨_,aDy (aAz h _) _ _ _,rfl⟩,_,aDy (aAz h _) _ _ _,rfl⟩
theorem Goes.eqS{ps:List Int}{ls:List Ln}{o:Of}{tk pt m1 m2:Int}(h:LInv ps ls)(g:Goes ps ls o tk pt m1 m2):m1=aE3 ps ls o.sl o.ow pt∧m2=aE3 ps ls o.bu tk o.ow:=by
 obtain⟨⟨μ,h1,rfl⟩,ν,h2,rfl⟩:=g;unfold aE3;rw[h1.eq (aDy (aAz h _) _ _ _),h2.eq (aDy (aAz h _) _ _ _)];exact⟨rfl,rfl⟩
noncomputable def mayS(ps:List Int)(ls:List Ln)(l:List Of)(tk pt want most s:Int):Int:=match aBs l s with
 | none=>0
 | some o=>mayO o ps tk pt want most (aE3 ps ls o.sl o.ow pt) (aE3 ps ls o.bu tk o.ow)
theorem aOh{ps:List Int}{ls:List Ln}(h:LInv ps ls){l:List Of}{tk pt want most s m1 m2:Int}(g:∀o,aBs l s=some o→Goes ps ls o tk pt m1 m2):mayV l ps s tk pt want most m1 m2=mayS ps ls l tk pt want most s:=by
 unfold mayV mayS
 cases hf:aBs l s with
 | none=>rfl
 | some o=>
  obtain⟨e1,e2⟩:=(g o hf).eqS h;simp only[];rw[e1,e2]
noncomputable def aJg(ps:List Int)(ls:List Ln)(a b c n:Int):List Ln:=payL ps ls a b c n (routeS (aBy ps ls c) a b n)
noncomputable def aC9(ps:List Int)(ls:List Ln)(o:Of)(tk pt n x:Int):List Ln:=aJg ps (if pt=o.ow then ls else aJg ps ls o.ow pt o.sl n) tk o.ow o.bu x
theorem aGy{ps:List Int}{ls:List Ln}(h:LInv ps ls)(a b c n:Int):LInv ps (aJg ps ls a b c n):=aIm h _ _ _ _ _
theorem aHe{ps:List Int}{ls:List Ln}(h:LInv ps ls)(o:Of)(tk pt n x:Int):aIr ps ls o tk pt n x (aC9 ps ls o tk pt n x):=by
 unfold aC9
 by_cases e:pt=o.ow
 ·rw[if_pos e];exact⟨ls,_,.inl ⟨e,rfl⟩,aDy (aAz h _) _ _ _,rfl⟩
 rw[if_neg e];exact⟨_,_,.inr ⟨e,_,aDy (aAz h _) _ _ _,rfl⟩,aDy (aAz (aGy h _ _ _ _) _) _ _ _,rfl⟩
theorem aSk{ps:List Int}{ls:List Ln}(h:LInv ps ls)(o:Of)(tk pt n x:Int):LInv ps (aC9 ps ls o tk pt n x):=(aHe h o tk pt n x).inv h
def okS(ps:List Int)(ls:List Ln)(l:List Of)(tk pt n s:Int):Prop:=1≤n∧n≤mayS ps ls l tk pt n 1099511627776 s
theorem aJh{ps:List Int}{ls:List Ln}(h:LInv ps ls){l:List Of}{tk pt n s m1 m2:Int}(g:∀o,aBs l s=some o→Goes ps ls o tk pt m1 m2):doOk l ps s tk pt n m1 m2↔okS ps ls l tk pt n s:=by
 unfold doOk okS;rw[aOh h g]
theorem may_okS{ps:List Int}{ls:List Ln}(h:LInv ps ls){l:List Of}{tk pt want most s k:Int}(hk:k=mayS ps ls l tk pt want most s)(h1:1≤k):okS ps ls l tk pt k s∧k≤want:=by
 obtain⟨m1,m2,g,b1,b2⟩:=aGx h l s tk pt;have e:mayV l ps s tk pt want most m1 m2=k:=by rw[aOh h g,hk]
 obtain⟨a,b,_⟩:=may_do b1 b2 e h1;exact⟨(aJh h g).1 a,b⟩
noncomputable def aBh(ps:List Int)(ls:List Ln)(l:List Of)(tk pt want most:Int):List Of→Option (Int×Int)
 | []=>none
 | o::os=>if 0<mayS ps ls l tk pt want most o.se then some (o.se,mayS ps ls l tk pt want most o.se)else aBh ps ls l tk pt want most os
theorem aLx{ps:List Int}{ls:List Ln}{l:List Of}{tk pt want most:Int}:∀{os:List Of} {s k:Int},aBh ps ls l tk pt want most os=some (s,k)→0<k∧k=mayS ps ls l tk pt want most s∧∃o∈os,o.se=s
 | [],s,k,h=>by simp[aBh]at h
 | o::os,s,k,h=>by
  unfold aBh at h;split at h
  ·rename_i hp;simp only[Option.some.injEq,Prod.mk.injEq]at h;obtain⟨rfl,rfl⟩:=h;exact⟨hp,rfl,o,List.mem_cons_self,rfl⟩
  obtain⟨h1,h2,o',h3,h4⟩:=aLx h;exact⟨h1,h2,o',List.mem_cons_of_mem _ h3,h4⟩
structure Fl where
 se:Int
 got:Int
 gi:Int
structure SwS where
 ls:List Ln
 l:List Of
 fs:List Fl
 n:Int
noncomputable def aGc(ps:List Int)(tk pt:Int)(σ:SwS)(s k:Int):SwS:=match aBs σ.l s with
 | none=>σ
 | some o=>⟨aC9 ps σ.ls o tk pt k (upN (k*o.nu) o.de),aCo σ.l s k,σ.fs++[⟨s,k,upN (k*o.nu) o.de⟩],σ.n - k⟩
noncomputable def aBe(ps:List Int)(tk pt get give:Int):Nat→SwS→Int×SwS
 | fuel,σ=>if σ.n≤0 then(0,σ)else match aBh ps σ.ls σ.l tk pt σ.n 1099511627776 (aBu σ.l get give)with
  | none=>(11,σ)
  | some (s,k)=>if σ.fs.length=64 then(13,σ)else match fuel with
   | 0=>(13,σ)
   | f+1=>aBe ps tk pt get give f (aGc ps tk pt σ s k)
theorem aEp{ps:List Int}{tk pt get give:Int}{fuel:Nat}{σ:SwS}(h:σ.n≤0):aBe ps tk pt get give fuel σ=(0,σ):=by
 cases fuel <;> (unfold aBe;rw[if_pos h])
theorem aEq{ps:List Int}{tk pt get give:Int}{fuel:Nat}{σ:SwS}(h:¬σ.n≤0)(hf:aBh ps σ.ls σ.l tk pt σ.n 1099511627776 (aBu σ.l get give)=none):aBe ps tk pt get give fuel σ=(11,σ):=by
 cases fuel <;> (unfold aBe;rw[if_neg h,hf])
theorem aFp{ps:List Int}{tk pt get give:Int}{fuel:Nat}{σ:SwS}{s k:Int}(h:¬σ.n≤0)(hf:aBh ps σ.ls σ.l tk pt σ.n 1099511627776 (aBu σ.l get give)=some (s,k))(hl:σ.fs.length=64):aBe ps tk pt get give fuel σ=(13,σ):=by
 cases fuel <;> (unfold aBe;rw[if_neg h,hf];simp only[];rw[if_pos hl])
theorem aD8{ps:List Int}{tk pt get give:Int}{fuel:Nat}{σ:SwS}{s k:Int}(h:¬σ.n≤0)(hf:aBh ps σ.ls σ.l tk pt σ.n 1099511627776 (aBu σ.l get give)=some (s,k))(hl:¬σ.fs.length=64):aBe ps tk pt get give (fuel+1) σ=aBe ps tk pt get give fuel (aGc ps tk pt σ s k):=by
 conv=>lhs;unfold aBe
 rw[if_neg h,hf];simp only[];rw[if_neg hl]
def aB5(fr pt get give n most:Int):Prop:=(1≤fr∧fr≤16)∧(1≤pt∧pt≤16)∧(1≤get∧get≤8)∧(1≤give∧give≤8)∧get≠give∧(1≤n∧n≤1099511627776)∧1≤most∧most≤1099511627776
instance(fr pt get give n most:Int):Decidable (aB5 fr pt get give n most):=by unfold aB5;infer_instance
noncomputable def aBm(ps:List Int)(ls:List Ln)(l:List Of)(fr pt get give n most:Int):Int×SwS:=
 if ¬aB5 fr pt get give n most then(1,⟨ls,l,[],n⟩)else if fr∉ps∨pt∉ps then(7,⟨ls,l,[],n⟩)else
  if(aBe ps fr pt get give 64 ⟨ls,l,[],n⟩).1≠0 then aBe ps fr pt get give 64 ⟨ls,l,[],n⟩else
  if most<((aBe ps fr pt get give 64 ⟨ls,l,[],n⟩).2.fs.map Fl.gi).sum then(12,(aBe ps fr pt get give 64 ⟨ls,l,[],n⟩).2)else aBe ps fr pt get give 64 ⟨ls,l,[],n⟩
theorem pmayS_any(HMy:aEm){w:World}{base G M gb:Nat}{ps:List Int}{ls:List Ln}{l:List Of}{N:Int}{vb:Value}(hL:LedM w G M ps ls)(hI:LInv ps ls)(hP:PB w base gb l N vb)(hJ:BInv l N)
  (s tk pt want most:Int)(hs:0≤s∧s≤18446744073709551615)(ht:In8 tk)(hto:In8 pt)(hw:In64 want)(hmo:In64 most):
  Calls Tryz.prog 65 #[.agg #[.pointer (some ⟨G,0,none⟩),.pointer (some ⟨gb,0,none⟩)],.int .u64 s,.int .u8 tk,.int .u8 pt,.int .i64 want,.int .i64 most] w (yR w (.int .i64 (mayS ps ls l tk pt want most s))):=by
 obtain⟨m1,m2,g,_,_⟩:=aGx hI l s tk pt;rw[←aOh hI g];exact HMy hL hI hP hJ s tk pt want most m1 m2 hs ht hto hw hmo g
def PDoS(w:World)(base G M gb:Nat)(ps:List Int)(ls:List Ln)(l:List Of)(N:Int)(vb:Value)(s tk pt n:Int)(e:Ending)(w':World):Prop:=
 (¬okS ps ls l tk pt n s∧e=.returned (.tuple #[aF8,.int .i64 1])∧Below w.heap.size w w')∨
 (okS ps ls l tk pt n s∧∃o x vb',aBs l s=some o∧x=upN (n*o.nu) o.de∧e=.returned (.tuple #[.agg #[.int .u64 s,.int .u8 tk,.int .u8 pt,.int .i64 n,.int .i64 x],.int .i64 0])∧
  LedM w' G M ps (aC9 ps ls o tk pt n x)∧PB w' base gb (aCo l s n) N vb'∧Keep (fun k=>k=G∨k=M∨Foot gb vb k) w w'∧aGu w vb vb')
theorem pdoS_any(HD:aGw){w:World}{base G M gb:Nat}{ps:List Int}{ls:List Ln}{l:List Of}{N:Int}{vb:Value}(hL:LedM w G M ps ls)(hI:LInv ps ls)(hP:PB w base gb l N vb)(hJ:BInv l N)
  (s tk pt n:Int)(hs:0≤s∧s≤18446744073709551615)(ht:In8 tk)(hto:In8 pt)(hn:In64 n):
  Calls Tryz.prog 67 #[.agg #[.pointer (some ⟨G,0,none⟩),.pointer (some ⟨gb,0,none⟩)],.int .u64 s,.int .u8 tk,.int .u8 pt,.int .i64 n] w (PDoS w base G M gb ps ls l N vb s tk pt n):=by
 obtain⟨m1,m2,g,_,_⟩:=aGx hI l s tk pt;refine(HD hL hI hP hJ s tk pt n m1 m2 hs ht hto hn g).mono ?_;rintro e w' (⟨a,b,c⟩|⟨a,o,x,ls',vb',b,c,d,f,h1,h2,h3,h4⟩)
 ·exact .inl ⟨fun q=>a ((aJh hI g).2 q),b,c⟩
 rw[d.eq (aHe hI o tk pt n x)]at h1;exact .inr ⟨(aJh hI g).1 a,o,x,vb',b,c,f,h1,h2,h3,h4⟩
theorem rmayS_any{w:World}{bl bb rl rb:Nat}{ps:List Int}{ls:List Ln}{l:List Of}{N:Int}{vp vl vb:Value}(hR:RefL w bl rl ps ls vp vl)(hI:LInv ps ls)(hB:RefB w bb rb l N vb)(hJ:BInv l N)
  (s tk pt want most:Int)(ht:In8 tk)(hto:In8 pt)(hw:In64 want)(hmo:In64 most):
  Calls Tryz.prog 89 #[.agg #[.pointer (some ⟨rl,0,none⟩),.pointer (some ⟨rb,0,none⟩)],.int .u64 s,.int .u8 tk,.int .u8 pt,.int .i64 want,.int .i64 most] w (yR w (.int .i64 (mayS ps ls l tk pt want most s))):=by
 obtain⟨m1,m2,g,_,_⟩:=aGx hI l s tk pt;rw[←aOh hI g];exact aM7 hR hI hB hJ s tk pt want most m1 m2 ht hto hw hmo g
def RDoS(w:World)(bl bb rl rb:Nat)(ps:List Int)(ls:List Ln)(l:List Of)(N:Int)(vp:Value)(s tk pt n:Int)(e:Ending)(w':World):Prop:=
 (¬okS ps ls l tk pt n s∧e=.returned (.tuple #[aF8,.int .i64 1])∧Below w.heap.size w w')∨
 (okS ps ls l tk pt n s∧∃o x vl' vb',aBs l s=some o∧x=upN (n*o.nu) o.de∧e=.returned (.tuple #[.agg #[.int .u64 s,.int .u8 tk,.int .u8 pt,.int .i64 n,.int .i64 x],.int .i64 0])∧
  RefL w' bl rl ps (aC9 ps ls o tk pt n x) vp vl'∧RefB w' bb rb (aCo l s n) N vb'∧Keep (fun k=>k=rl∨k=rb) w w')
theorem rdoS_any{w:World}{bl bb rl rb:Nat}{ps:List Int}{ls:List Ln}{l:List Of}{N:Int}{vp vl vb:Value}(hR:RefL w bl rl ps ls vp vl)(hI:LInv ps ls)(hB:RefB w bb rb l N vb)(hJ:BInv l N)
  (s tk pt n:Int)(ht:In8 tk)(hto:In8 pt)(hn:In64 n):
  Calls Tryz.prog 45 #[.agg #[.pointer (some ⟨rl,0,none⟩),.pointer (some ⟨rb,0,none⟩)],.int .u64 s,.int .u8 tk,.int .u8 pt,.int .i64 n] w (RDoS w bl bb rl rb ps ls l N vp s tk pt n):=by
 obtain⟨m1,m2,g,_,_⟩:=aGx hI l s tk pt;refine(rdo10_any hR hI hB hJ s tk pt n m1 m2 ht hto hn g).mono ?_;rintro e w' (⟨a,b,c⟩|⟨a,o,x,ls',vl',vb',b,c,d,f,h1,h2,h3⟩)
 ·exact .inl ⟨fun q=>a ((aJh hI g).2 q),b,c⟩
 rw[d.eq (aHe hI o tk pt n x)]at h1;exact .inr ⟨(aJh hI g).1 a,o,x,vl',vb',b,c,f,h1,h2,h3⟩
theorem aOi(an ad bn bd:Nat)(w:World)(h1:mayB an ad=true)(h2:mayB bn bd=true):
  Calls Tryz.prog 90 #[.agg #[.int .i64 an,.int .i64 ad],.agg #[.int .i64 bn,.int .i64 bd]] w fun e w'=>e=.returned (.int .i64 (cmpI (an*bd:Nat) (bn*ad:Nat)))∧Below w.heap.size w w':=by
 have hz:=aHb;have hfl:=aHm;obtain⟨p1,p2,p3,p4,_⟩:=aE2 h1;obtain⟨q1,q2,q3,q4,_⟩:=aE2 h2;have c1:=yH (fun w=>aE1 an ad w);have c2:=yH (fun w=>aE1 bn bd w);rw[h1]at c1;rw[h2]at c2;have oA:=yH (fun w=>aIn (an:Int) w ⟨by omega,by omega⟩);have oB:=yH (fun w=>aIn (bn:Int) w ⟨by omega,by omega⟩);have oC:=yH (fun w=>aIn (ad:Int) w ⟨by omega,by omega⟩);have oD:=yH (fun w=>aIn (bd:Int) w ⟨by omega,by omega⟩);rw[decide_eq_false (by omega),Int.natAbs_natCast]at oA oB oC oD;have tX:=yH (fun w=>aLh false false an bd w (by omega));have tY:=yH (fun w=>aLh false false bn ad w (by omega));have hX:an*bd<2 ^ 192:=Nat.lt_of_le_of_lt (Nat.mul_le_mul (show an≤1099511627776 by omega) (show bd≤1099511627776 by omega)) (by decide);have hY:bn*ad<2 ^ 192:=Nat.lt_of_le_of_lt (Nat.mul_le_mul (show bn≤1099511627776 by omega) (show ad≤1099511627776 by omega)) (by decide);have gXY:=yH (fun w=>aEd (an*bd) (bn*ad) w hX hY);have gYX:=yH (fun w=>aEd (bn*ad) (an*bd) w hY hX);have k1:Blk ((w.alloc (.cells #[.int .i64 an,.int .i64 ad] 74)).alloc (.cells #[.int .i64 bn,.int .i64 bd] 74)) w.heap.size #[.int .i64 an,.int .i64 ad] 74:=(pAA _ _ _).alloc _;have k2:Blk ((w.alloc (.cells #[.int .i64 an,.int .i64 ad] 74)).alloc (.cells #[.int .i64 bn,.int .i64 bd] 74)) (w.heap.size+1) #[.int .i64 bn,.int .i64 bd] 74:=pAC _ _ _ (by simp);have b0:Below w.heap.size w ((w.alloc (.cells #[.int .i64 an,.int .i64 ad] 74)).alloc (.cells #[.int .i64 bn,.int .i64 bd] 74)):=(yZ.alloc yL _).alloc (by simp) _;have K1:=yH k1;have K2:=yH k2;have B0:=yH b0;clear k1 k2 b0 h1 h2 p1 p2 p3 p4 q1 q2 q3 q4 hX hY;generalize an*bd=x at *;generalize bn*ad=y at *;rw[show cmpI (x:Int) (y:Int)=(if decide (y<x)=true then 1 else if decide (x<y)=true then -1 else 0) by unfold cmpI;simp only[decide_eq_true_eq];(repeat' split) <;> omega];generalize decide (y<x)=p at *;generalize decide (x<y)=q at *;unfold aBp at *;unfold aFa at *;go_enter Tryz.func90,Tryz.ntmps90;go_wp2_with fail;refine(c1.out _).mono ?_;rintro e w1 ⟨rfl,b1⟩;have B1:=yH (B0.out.trans (b1.mono (by simp;omega)));have R1:=yB K1 b1;have R2:=yB K2 b1;have e0:=R2.out.cell 0;have e1:=R2.out.cell 1;simp at e0 e1;clear b1;go_wp2_with fail;refine(c2.out _).mono ?_;rintro e w2 ⟨rfl,b2⟩;have B2:=yT B1 b2;have S1:=yB R1 b2;have S2:=yB R2 b2;clear b2 e0 e1;go_wp2_with fail
 refine aA4 (by kernel_rfl) (fun g=>[.pointer (some ⟨w.heap.size,0,none⟩),.int .i64 an,.agg (aAf false an.testBit),.pointer (some ⟨w.heap.size+1,1,none⟩),.int .i64 bd,.agg (aAf false bd.testBit),.agg (aAf false x.testBit),.agg (arr x.testBit),.pointer (some ⟨g,0,none⟩)])
  (Laid w2 8 9 (arr fun _=>false) (arr x.testBit) 159) (by kernel_rfl) 0 ⟨yZ.drew,by simp,by simp⟩ ?_
 intro AF hAF;simp only[puts,Act.put,yA,yC,yF,yD,yE]at hAF;have hAF2:_=AF:=funext hAF;subst hAF2;clear hAF;refine⟨?_,?_⟩
 ·simp only[aEr];refine⟨?_,?_,?_,?_,?_,?_,?_,?_,?_,?_,trivial⟩
  ·intro g D w' hD _ _ hI;refine⟨g,fun _ _ _=>rfl,?_⟩;with_reducible refine yO rfl ?_
   have hI':=yH (hI.step yZ (k:=0) (by decide) (by decide));clear hI;go_wp2_with fail;all_goals first|exact hI'|exact⟨rfl,hI'⟩|rfl
  ·intro g D w' hD _ _ hI;refine⟨g,fun _ _ _=>rfl,?_⟩;with_reducible refine yO rfl ?_
   have hI':=yH (hI.step yZ (k:=1) (by decide) (by decide));have d0:=(S1.out.below hI.1 S1.out.lt).cell 0;simp at d0;clear hI;go_wp2_with fail;all_goals first|exact hI'|exact⟨rfl,hI'⟩|rfl
  ·intro g D w' hD _ _ hI;refine⟨g,fun _ _ _=>rfl,?_⟩;with_reducible refine yO rfl ?_
   have HI:=yH hI;clear hI;go_wp2_with fail;refine(oA.out w').mono ?_;rintro e w'' ⟨rfl,hb2⟩;exact⟨rfl,HI.out.step hb2 (by decide) (by decide)⟩
  ·intro g D w' hD _ _ hI;refine⟨g,fun _ _ _=>rfl,?_⟩;with_reducible refine yO rfl ?_
   have hI':=yH (hI.step yZ (k:=3) (by decide) (by decide));clear hI;go_wp2_with fail;all_goals first|exact hI'|exact⟨rfl,hI'⟩|rfl
  ·intro g D w' hD _ _ hI;refine⟨g,fun _ _ _=>rfl,?_⟩;with_reducible refine yO rfl ?_
   have hI':=yH (hI.step yZ (k:=4) (by decide) (by decide));have d0:=(S2.out.below hI.1 S2.out.lt).cell 1;simp at d0;clear hI;go_wp2_with fail;all_goals first|exact hI'|exact⟨rfl,hI'⟩|rfl
  ·intro g D w' hD _ _ hI;refine⟨g,fun _ _ _=>rfl,?_⟩;with_reducible refine yO rfl ?_
   have HI:=yH hI;clear hI;go_wp2_with fail;refine(oD.out w').mono ?_;rintro e w'' ⟨rfl,hb2⟩;exact⟨rfl,HI.out.step hb2 (by decide) (by decide)⟩
  ·intro g D w' hD _ _ hI;refine⟨g,fun _ _ _=>rfl,?_⟩;with_reducible refine yO rfl ?_
   have HI:=yH hI;clear hI;go_wp2_with fail;refine(tX.out w').mono ?_;rintro e w'' ⟨rfl,hb2⟩;exact⟨rfl,HI.out.step hb2 (by decide) (by decide)⟩
  ·intro g D w' hD _ _ hI;refine⟨g,fun _ _ _=>rfl,?_⟩;with_reducible refine yO rfl ?_
   have hI':=yH (hI.step yZ (k:=7) (by decide) (by decide));clear hI;go_wp2_with fail;all_goals first|exact hI'|exact⟨rfl,hI'⟩|rfl
  ·intro g D w' hD _ hC hI
   have h9:D 9=false:=by
    by_cases h:D 9=true
    ·have:=hC 9 _ rfl h ⟨8,.data⟩ (by simp) rfl;rw[hD]at this;cases this
    simpa using h
   refine⟨w'.heap.size,?_,?_⟩
   ·intro j hj hDj
    match j,hj,hDj with
    | 0,_,_=>rfl
    | 1,_,_=>rfl
    | 2,_,_=>rfl
    | 3,_,_=>rfl
    | 4,_,_=>rfl
    | 5,_,_=>rfl
    | 6,_,_=>rfl
    | 7,_,_=>rfl
    | 8,_,h=>rw[hD]at h;cases h
    | j+9,_,_=>rfl
   with_reducible refine yO rfl ?_
   have hI':=yH (hI.lay h9 (by decide));clear hI h9;go_wp2_with fail;all_goals first|exact hI'|exact⟨rfl,hI'⟩|rfl
  intro g D w' hD hW _ hI;have h8:D 8=true:=hW ⟨8,.data⟩ (by simp) rfl;obtain⟨hg,hk⟩:=hI.2.1 h8 hD;refine⟨g,fun _ _ _=>rfl,?_⟩;with_reducible refine yO rfl ?_
  refine wp_store_row 159 (.tmp 5) (.tmp 22) rfl g (arr x.testBit) rfl rfl 159 _ hk.out (aAn _) (by rw[aA6,aA6]) (aDt _) ⟨rfl,?_⟩;exact hI.fill (below_setRow hI.1 hg _) hg hk.row
 intro g3 D w3' hall hI;obtain⟨hb3,_,h9⟩:=hI;obtain⟨hg3,hk3⟩:=h9 (hall 9 (by decide));have B3:=yT B2 hb3;have T1:=yB S1 hb3;have T2:=yB S2 hb3;have KX:=yH hk3;have GX:=yH (Nat.le_trans B2.out.size hg3);clear hb3 h9 hg3 hk3 hall;go_wp2_with fail
 refine aA4 (by kernel_rfl) (fun g=>[.pointer (some ⟨w.heap.size+1,0,none⟩),.int .i64 bn,.agg (aAf false bn.testBit),.pointer (some ⟨w.heap.size,1,none⟩),.int .i64 ad,.agg (aAf false ad.testBit),.agg (aAf false y.testBit),.agg (arr y.testBit),.pointer (some ⟨g,0,none⟩)])
  (Laid w3' 8 9 (arr fun _=>false) (arr y.testBit) 159) (by kernel_rfl) 0 ⟨yZ.drew,by simp,by simp⟩ ?_
 intro AF hAF;simp only[puts,Act.put,yA,yC,yF,yD,yE]at hAF;have hAF2:_=AF:=funext hAF;subst hAF2;clear hAF;refine⟨?_,?_⟩
 ·simp only[aEr];refine⟨?_,?_,?_,?_,?_,?_,?_,?_,?_,?_,trivial⟩
  ·intro g D w' hD _ _ hI;refine⟨g,fun _ _ _=>rfl,?_⟩;with_reducible refine yO rfl ?_
   have hI':=yH (hI.step yZ (k:=0) (by decide) (by decide));clear hI;go_wp2_with fail;all_goals first|exact hI'|exact⟨rfl,hI'⟩|rfl
  ·intro g D w' hD _ _ hI;refine⟨g,fun _ _ _=>rfl,?_⟩;with_reducible refine yO rfl ?_
   have hI':=yH (hI.step yZ (k:=1) (by decide) (by decide));have d0:=(T2.out.below hI.1 T2.out.lt).cell 0;simp at d0;clear hI;go_wp2_with fail;all_goals first|exact hI'|exact⟨rfl,hI'⟩|rfl
  ·intro g D w' hD _ _ hI;refine⟨g,fun _ _ _=>rfl,?_⟩;with_reducible refine yO rfl ?_
   have HI:=yH hI;clear hI;go_wp2_with fail;refine(oB.out w').mono ?_;rintro e w'' ⟨rfl,hb2⟩;exact⟨rfl,HI.out.step hb2 (by decide) (by decide)⟩
  ·intro g D w' hD _ _ hI;refine⟨g,fun _ _ _=>rfl,?_⟩;with_reducible refine yO rfl ?_
   have hI':=yH (hI.step yZ (k:=3) (by decide) (by decide));clear hI;go_wp2_with fail;all_goals first|exact hI'|exact⟨rfl,hI'⟩|rfl
  ·intro g D w' hD _ _ hI;refine⟨g,fun _ _ _=>rfl,?_⟩;with_reducible refine yO rfl ?_
   have hI':=yH (hI.step yZ (k:=4) (by decide) (by decide));have d0:=(T1.out.below hI.1 T1.out.lt).cell 1;simp at d0;clear hI;go_wp2_with fail;all_goals first|exact hI'|exact⟨rfl,hI'⟩|rfl
  ·intro g D w' hD _ _ hI;refine⟨g,fun _ _ _=>rfl,?_⟩;with_reducible refine yO rfl ?_
   have HI:=yH hI;clear hI;go_wp2_with fail;refine(oC.out w').mono ?_;rintro e w'' ⟨rfl,hb2⟩;exact⟨rfl,HI.out.step hb2 (by decide) (by decide)⟩
  ·intro g D w' hD _ _ hI;refine⟨g,fun _ _ _=>rfl,?_⟩;with_reducible refine yO rfl ?_
   have HI:=yH hI;clear hI;go_wp2_with fail;refine(tY.out w').mono ?_;rintro e w'' ⟨rfl,hb2⟩;exact⟨rfl,HI.out.step hb2 (by decide) (by decide)⟩
  ·intro g D w' hD _ _ hI;refine⟨g,fun _ _ _=>rfl,?_⟩;with_reducible refine yO rfl ?_
   have hI':=yH (hI.step yZ (k:=7) (by decide) (by decide));clear hI;go_wp2_with fail;all_goals first|exact hI'|exact⟨rfl,hI'⟩|rfl
  ·intro g D w' hD _ hC hI
   have h9:D 9=false:=by
    by_cases h:D 9=true
    ·have:=hC 9 _ rfl h ⟨8,.data⟩ (by simp) rfl;rw[hD]at this;cases this
    simpa using h
   refine⟨w'.heap.size,?_,?_⟩
   ·intro j hj hDj
    match j,hj,hDj with
    | 0,_,_=>rfl
    | 1,_,_=>rfl
    | 2,_,_=>rfl
    | 3,_,_=>rfl
    | 4,_,_=>rfl
    | 5,_,_=>rfl
    | 6,_,_=>rfl
    | 7,_,_=>rfl
    | 8,_,h=>rw[hD]at h;cases h
    | j+9,_,_=>rfl
   with_reducible refine yO rfl ?_
   have hI':=yH (hI.lay h9 (by decide));clear hI h9;go_wp2_with fail;all_goals first|exact hI'|exact⟨rfl,hI'⟩|rfl
  intro g D w' hD hW _ hI;have h8:D 8=true:=hW ⟨8,.data⟩ (by simp) rfl;obtain⟨hg,hk⟩:=hI.2.1 h8 hD;refine⟨g,fun _ _ _=>rfl,?_⟩;with_reducible refine yO rfl ?_
  refine wp_store_row 159 (.tmp 6) (.tmp 30) rfl g (arr y.testBit) rfl rfl 159 _ hk.out (aAn _) (by rw[aA6,aA6]) (aDt _) ⟨rfl,?_⟩;exact hI.fill (below_setRow hI.1 hg _) hg hk.row
 intro g4 D w4' hall hI;obtain⟨hb4,_,h9⟩:=hI;obtain⟨hg4,hk4⟩:=h9 (hall 9 (by decide));have B4:=yT B3 hb4;have KX4:=yB KX hb4;have KY:=yH hk4;clear hb4 h9 hg4 hk4 hall;dsimp only
 cases p
 ·cases q
  all_goals
   go_wp2_with (first
    | ((with_reducible refine wpList_load_row ?_ 159 (.tmp 5) ?_ g3 ?_ 159 (arr x.testBit) (0,0) _ KX4.out.out Tryz.underlying159 ?_ (aAn _) ?_);exact rfl;exact rfl;exact rfl;exact rfl)
    | ((with_reducible refine wpList_load_row ?_ 159 (.tmp 6) ?_ g4 ?_ 159 (arr y.testBit) (0,0) _ KY.out.out Tryz.underlying159 ?_ (aAn _) ?_);exact rfl;exact rfl;exact rfl;exact rfl))
   refine(gXY.out _).mono ?_;rintro e w5 ⟨rfl,b5⟩;have KX5:=yB KX4 b5;have KY5:=yB KY b5;have B5:=yT B4 b5;clear b5
   go_wp2_with (first
    | ((with_reducible refine wpList_load_row ?_ 159 (.tmp 5) ?_ g3 ?_ 159 (arr x.testBit) (0,0) _ KX5.out.out Tryz.underlying159 ?_ (aAn _) ?_);exact rfl;exact rfl;exact rfl;exact rfl)
    | ((with_reducible refine wpList_load_row ?_ 159 (.tmp 6) ?_ g4 ?_ 159 (arr y.testBit) (0,0) _ KY5.out.out Tryz.underlying159 ?_ (aAn _) ?_);exact rfl;exact rfl;exact rfl;exact rfl))
   refine(gYX.out _).mono ?_;rintro e w6 ⟨rfl,b6⟩;go_wp2_with fail;go_ret;exact⟨rfl,B5.out.trans (b6.mono B5.out.size)⟩
 go_wp2_with (first
  | ((with_reducible refine wpList_load_row ?_ 159 (.tmp 5) ?_ g3 ?_ 159 (arr x.testBit) (0,0) _ KX4.out.out Tryz.underlying159 ?_ (aAn _) ?_);exact rfl;exact rfl;exact rfl;exact rfl)
  | ((with_reducible refine wpList_load_row ?_ 159 (.tmp 6) ?_ g4 ?_ 159 (arr y.testBit) (0,0) _ KY.out.out Tryz.underlying159 ?_ (aAn _) ?_);exact rfl;exact rfl;exact rfl;exact rfl))
 refine(gXY.out _).mono ?_;rintro e w5 ⟨rfl,b5⟩;go_wp2_with fail;go_ret;exact⟨rfl,B4.out.trans (b5.mono B4.out.size)⟩
theorem aP8(an ad bn bd:Int)(w:World):
  Calls Tryz.prog 90 #[.agg #[.int .i64 an,.int .i64 ad],.agg #[.int .i64 bn,.int .i64 bd]] w (yR w (.int .i64 (cmpR an ad bn bd))):=by
 by_cases hm:mayB an ad=true
 ·by_cases hm2:mayB bn bd=true
  ·rw[show cmpR an ad bn bd=cmpI (an*bd) (bn*ad) by unfold cmpR;rw[if_pos ⟨hm,hm2⟩]];obtain⟨p1,p2,p3,p4,_⟩:=aE2 hm;obtain⟨q1,q2,q3,q4,_⟩:=aE2 hm2;obtain⟨a,rfl⟩:=Int.eq_ofNat_of_zero_le (show 0≤an by omega);obtain⟨b,rfl⟩:=Int.eq_ofNat_of_zero_le (show 0≤ad by omega);obtain⟨c,rfl⟩:=Int.eq_ofNat_of_zero_le (show 0≤bn by omega);obtain⟨d,rfl⟩:=Int.eq_ofNat_of_zero_le (show 0≤bd by omega);have:=aOi a b c d w hm hm2;rw[show(a:Int)*(d:Int)=((a*d:Nat):Int) by simp,show(c:Int)*(b:Int)=((c*b:Nat):Int) by simp];exact this
  rw[show cmpR an ad bn bd=0 by unfold cmpR;rw[if_neg (by simp[hm2])]];have c1:=yH (fun w=>aE1 an ad w);have c2:=yH (fun w=>aE1 bn bd w);have k1:Blk ((w.alloc (.cells #[.int .i64 an,.int .i64 ad] 74)).alloc (.cells #[.int .i64 bn,.int .i64 bd] 74)) (w.heap.size+1) #[.int .i64 bn,.int .i64 bd] 74:=pAC _ _ _ (by simp);have b0:Below w.heap.size w ((w.alloc (.cells #[.int .i64 an,.int .i64 ad] 74)).alloc (.cells #[.int .i64 bn,.int .i64 bd] 74)):=(yZ.alloc yL _).alloc (by simp) _;have K2:=yH k1;have B0:=yH b0;clear k1 b0;simp only[Bool.not_eq_true]at hm2;rw[hm]at c1;rw[hm2]at c2;clear hm hm2;go_enter Tryz.func90,Tryz.ntmps90;go_wp2_with fail;refine(c1.out _).mono ?_;rintro e w1 ⟨rfl,b1⟩;have B1:=yH (B0.out.trans (b1.mono (by simp;omega)));have r2:=K2.out.below b1 K2.out.lt;have e0:=r2.cell 0;have e1:=r2.cell 1;simp at e0 e1;clear r2 b1;go_wp2_with fail;refine(c2.out _).mono ?_;rintro e w2 ⟨rfl,b2⟩;go_wp2_with fail;go_ret;exact⟨rfl,B1.out.trans (b2.mono B1.out.size)⟩
 rw[show cmpR an ad bn bd=0 by unfold cmpR;rw[if_neg (by simp[hm])]];have c1:=yH (fun w=>aE1 an ad w);have b0:Below w.heap.size w ((w.alloc (.cells #[.int .i64 an,.int .i64 ad] 74)).alloc (.cells #[.int .i64 bn,.int .i64 bd] 74)):=(yZ.alloc yL _).alloc (by simp) _;have B0:=yH b0;clear b0;simp only[Bool.not_eq_true]at hm;rw[hm]at c1;clear hm;go_enter Tryz.func90,Tryz.ntmps90;go_wp2_with fail;refine(c1.out _).mono ?_;rintro e w1 ⟨rfl,b1⟩;go_wp2_with fail;go_ret;exact⟨rfl,B0.out.trans (b1.mono (by simp;omega))⟩
theorem aCt{P:Program}{ops:Array Oper}{rest:List Oper}{o:Oper}{a:Act}{w w':World}{Q:Exit→Act→World→Prop}(hgd:o.guard=none)(y x:Operand)(t:TypeId){u v v':Value}
  (ho:o.op=.call { callee:=.builtin .append,args:=#[y,x],argTypes:=#[t,t] })(hy:a.eval y=u)(hx:a.eval x=v)
  (hr:(Builtin.append_ #[t,t] o.type #[u,v]).run P w=.ok v' w')(h:wpList P ops Q rest (a.put o.dst v') w'):wpList P ops Q (o::rest) a w:=by
 refine wpList_plain hgd fun K hK=>?_
 unfold Oper.wp execOp;simp only[ho,resolve,invoke,builtin,Sem.run_bind,Sem.run_pure,Result.andThen_ok,List.map_toArray,List.map_cons,List.map_nil,hy,hx,hr];exact hK _ _ h
theorem aH3{w:World}{base:Nat}{v:Value}{n:Nat}{xs:List Value}(hown:w.ownsRow base 76 7 v n xs)(hn:n≤1000)(g o m c:Nat)(hm:m≤1000)(ys:List Of)(hy:ys.length=m)
  (hc:∀j,j<m*7→w.cell? ⟨g,o+j,none⟩=(aAa ys)[j]?)(ty:TypeId)(hb:base≤w.heap.size):
  ∃v' w',(Builtin.append_ #[23,23] ty #[v,.slice (some ⟨g,o,none⟩) m c]).run Tryz.prog w=.ok v' w'∧w'.ownsRow base 76 7 v' (n+m) (xs++aAa ys)∧w.grownBy w' v.ownBlock:=by
 obtain⟨i0,hi,hz0,hz1,hz2⟩:=info_parts aI5
 obtain⟨v',w',hr,h2,h3,_⟩:=run_append_own (P:=Tryz.prog) (w:=w) base 23 ty 76 i0 noOf.val 7 40 Tryz.underlying23 hi hz0 hz1 hz2 rfl (by decide) v n xs hown ⟨g,o,none⟩ m c (aAa ys) (by rw[aAr,hy]) (fun j u hj=>by
  have hjl:j<(aAa ys).length:=(List.getElem?_eq_some_iff.1 hj).1;rw[aAr,hy]at hjl;rw[Go.WideShapes.add_plain];exact(hc j hjl).trans hj) (aCx ys) (by unfold maxLen;omega) (by omega) hb
 exact⟨v',w',hr,h2,h3⟩
theorem aJx{w:World}{base:Nat}{v:Value}{n:Nat}{xs:List Value}(hown:w.ownsRow base 76 7 v n xs)(ty:TypeId):
  (Builtin.append_ #[23,23] ty #[v,.slice none 0 0]).run Tryz.prog w=.ok v w:=by
 obtain⟨i0,hi,hz0,hz1,hz2⟩:=info_parts aI5;exact run_append_owned_none (P:=Tryz.prog) (w:=w) base 23 ty 76 i0 7 Tryz.underlying23 hi v n xs hown
theorem aP9(ls:List Of){i j:Nat}(hi:i≤ls.length)(hj:j<i*7):(aAa (ls.take i))[j]? = (aAa ls)[j]? := by
 have h:=aAv (ls.take i) (ls.drop i);rw[List.take_append_drop]at h;rw[h,List.getElem?_append_left (by rw[aAr,List.length_take];omega)]
theorem aQa(ls:List Of){i j:Nat}(hi:i≤ls.length):(aAa (ls.drop i))[j]? = (aAa ls)[i*7+j]? := by
 have h:=aAv (ls.take i) (ls.drop i);rw[List.take_append_drop]at h;have hl:(aAa (ls.take i)).length=i*7:=by rw[aAr,List.length_take];congr 1;omega
 rw[h,List.getElem?_append_right (by omega),hl,Nat.add_sub_cancel_left]
theorem best_le{W:World}{b X n cap:Nat}{i c:Int}{x y:Of}{ao:Option Addr}(i4:0≤i)(hn:n≤1000)(HB:Hid (b<W.heap.size))(HY5:Hid (W.cell? ⟨b,i.toNat*7+5,none⟩=some (.int .i64 y.nu)))(HY6:Hid (W.cell? ⟨b,i.toNat*7+6,none⟩=some (.int .i64 y.de)))(KX:Hid (Blk W X #[.int .u64 x.se,.int .u8 x.ow,.int .u8 x.sl,.int .u8 x.bu,.int .i64 x.lf,.int .i64 x.nu,.int .i64 x.de] 76))(CC:Hid (∀w',Calls Tryz.prog 90 #[.agg #[.int .i64 y.nu,.int .i64 y.de],.agg #[.int .i64 x.nu,.int .i64 x.de]] w' fun e w''=>e=.returned (.int .i64 c)∧Below w'.heap.size w' w''))(i1:i<(n:Int))(c0:decide (i<(n:Int))=true)(c1:decide (c≤0)=true){Q:Exit→Act→World→Prop}{c0 c1 c2 c3 c4 c5 c6 c8 c11 c12 c13 c14 c15 c16 c17 c18 c19 c20 c21 c22 c23 c24 c25 c26 c27 c28 c29 c30 c31 c32 c33 c34 c35 c36 c37 c38 c39 c40 c41 c42 c43 c44 c45 c46 c47 c48 c49 c50 c51 c52 c53 c54 c55 c56 c57 c58 c59 c60 c61 c62 c63 c64 c65 c66 c67 c68 c69:Value}
  (hq:∀w6,(fun w'=>Below W.heap.size W w') w6→Q .normal ⟨#[c0,c1,c2,c3,c4,c5,c6,(.slice (some ⟨b,0,none⟩) n cap),c8,(.pointer (some ⟨X,0,none⟩)),(.int .i64 i),c11,c12,c13,c14,c15,c16,c17,c18,c19,c20,c21,c22,c23,c24,c25,c26,c27,c28,c29,c30,c31,c32,c33,c34,c35,c36,c37,(.int .i64 i),(.slice (some ⟨b,0,none⟩) n cap),(.int .i64 n),(.bool true),(.bool true),(.slice (some ⟨b,0,none⟩) n cap),(.int .i64 i),(.pointer (some ⟨b,i.toNat*7,none⟩)),(.pointer (some ⟨b,i.toNat*7+5,none⟩)),(.agg #[.int .i64 y.nu,.int .i64 y.de]),(.pointer (some ⟨X,5,none⟩)),(.agg #[.int .i64 x.nu,.int .i64 x.de]),(.int .i64 c),(.bool true),(.bool true),c53,c54,c55,c56,c57,c58,c59,c60,c61,c62,c63,c64,c65,c66,c67,c68,c69],[]⟩ w6):
  Code.wp Tryz.prog (((Tryz.f44.body).bind (aCb 8)).getD .skip) Q ⟨#[c0,c1,c2,c3,c4,c5,c6,(.slice (some ⟨b,0,none⟩) n cap),c8,(.pointer (some ⟨X,0,none⟩)),(.int .i64 i),c11,c12,c13,c14,c15,c16,c17,c18,c19,c20,c21,c22,c23,c24,c25,c26,c27,c28,c29,c30,c31,c32,c33,c34,c35,c36,c37,c38,c39,c40,c41,c42,c43,c44,c45,c46,c47,c48,c49,c50,c51,c52,c53,c54,c55,c56,c57,c58,c59,c60,c61,c62,c63,c64,c65,c66,c67,c68,c69],[]⟩ W:=by
 conv=>arg 2;whnf
 have HQ:=yH hq;clear hq
 refine aAy (by kernel_rfl) [(.int .i64 i),(.slice (some ⟨b,0,none⟩) n cap),(.int .i64 n),(.bool true),(.bool true),(.slice (some ⟨b,0,none⟩) n cap),(.int .i64 i),(.pointer (some ⟨b,i.toNat*7,none⟩)),(.pointer (some ⟨b,i.toNat*7+5,none⟩)),(.agg #[.int .i64 y.nu,.int .i64 y.de]),(.pointer (some ⟨X,5,none⟩)),(.agg #[.int .i64 x.nu,.int .i64 x.de]),(.int .i64 c),(.bool true),(.bool true)]
  (fun w'=>Below W.heap.size W w') (by kernel_rfl) yZ.drew ?_
 intro af haf;simp only[yG,List.append_eq,List.cons_append,List.nil_append,puts,Act.put,yA,yC,yF,yD,yE]at haf;subst haf;refine⟨?_,?_⟩
 ·simp only[yG,List.append_eq,List.cons_append,List.nil_append,aA8];refine⟨?z1,?z2,?z3,?z4,?z5,?z7,?z8,?z9,?z10,?_,?z11,?_,?_,?z12,?z6,trivial⟩
  case z1|z2|z3|z4|z5|z6=>
   intro w' hS;refine yO rfl ?_;have HS:=yH hS;clear hS;go_wp2_with fail;all_goals first|exact HS|exact⟨rfl,HS⟩|rfl|exact⟨by omega,HS.out⟩
  case z7|z8|z9|z10|z11|z12=>
   intro w' hS;refine OpTo.wanted ?_ ?_
   kernel_rfl
   have HS:=yH hS;clear hS;go_wp2_with fail;all_goals first|exact HS|exact⟨rfl,HS⟩|rfl|exact⟨by omega,HS.out⟩
  ·intro w' hS;refine OpTo.wanted ?_ ?_
   kernel_rfl
   have hlt:=yM HB.out hS.size;have e5:=(hS.cell (p:=⟨b,i.toNat*7+5,none⟩) HB.out).trans HY5.out;have e6:=(hS.cell (p:=⟨b,i.toNat*7+6,none⟩) HB.out).trans HY6.out;have HS:=yH hS;clear hS;go_wp2_with fail;all_goals first|exact HS|exact⟨rfl,HS⟩|rfl|exact⟨by omega,HS.out⟩
  ·intro w' hS;refine OpTo.wanted ?_ ?_
   kernel_rfl
   have d0_0:=(KX.out.below hS KX.out.lt).cell 0;have d0_1:=(KX.out.below hS KX.out.lt).cell 1;have d0_2:=(KX.out.below hS KX.out.lt).cell 2;have d0_3:=(KX.out.below hS KX.out.lt).cell 3;have d0_4:=(KX.out.below hS KX.out.lt).cell 4;have d0_5:=(KX.out.below hS KX.out.lt).cell 5;have d0_6:=(KX.out.below hS KX.out.lt).cell 6;simp at d0_0 d0_1 d0_2 d0_3 d0_4 d0_5 d0_6;have HS:=yH hS;clear hS;go_wp2_with fail;all_goals first|exact HS|exact⟨rfl,HS⟩|rfl|exact⟨by omega,HS.out⟩
  intro w' hS;refine OpTo.wanted ?_ ?_
  kernel_rfl
  have HS:=yH hS;clear hS;go_wp2_with fail;refine(CC.out w').mono ?_;rintro e w'' ⟨rfl,hb2⟩;exact⟨rfl,andB HS.out hb2⟩
 intro w6 b6;exact HQ.out w6 b6
theorem best_gt{W:World}{b X n cap:Nat}{i c:Int}{x y:Of}{ao:Option Addr}(i4:0≤i)(hn:n≤1000)(HB:Hid (b<W.heap.size))(HY5:Hid (W.cell? ⟨b,i.toNat*7+5,none⟩=some (.int .i64 y.nu)))(HY6:Hid (W.cell? ⟨b,i.toNat*7+6,none⟩=some (.int .i64 y.de)))(KX:Hid (Blk W X #[.int .u64 x.se,.int .u8 x.ow,.int .u8 x.sl,.int .u8 x.bu,.int .i64 x.lf,.int .i64 x.nu,.int .i64 x.de] 76))(CC:Hid (∀w',Calls Tryz.prog 90 #[.agg #[.int .i64 y.nu,.int .i64 y.de],.agg #[.int .i64 x.nu,.int .i64 x.de]] w' fun e w''=>e=.returned (.int .i64 c)∧Below w'.heap.size w' w''))(i1:i<(n:Int))(c0:decide (i<(n:Int))=true)(c1:decide (c≤0)=false){Q:Exit→Act→World→Prop}{c0 c1 c2 c3 c4 c5 c6 c8 c11 c12 c13 c14 c15 c16 c17 c18 c19 c20 c21 c22 c23 c24 c25 c26 c27 c28 c29 c30 c31 c32 c33 c34 c35 c36 c37 c38 c39 c40 c41 c42 c43 c44 c45 c46 c47 c48 c49 c50 c51 c52 c53 c54 c55 c56 c57 c58 c59 c60 c61 c62 c63 c64 c65 c66 c67 c68 c69:Value}
  (hq:∀w6,(fun w'=>Below W.heap.size W w') w6→Q .normal ⟨#[c0,c1,c2,c3,c4,c5,c6,(.slice (some ⟨b,0,none⟩) n cap),c8,(.pointer (some ⟨X,0,none⟩)),(.int .i64 i),c11,c12,c13,c14,c15,c16,c17,c18,c19,c20,c21,c22,c23,c24,c25,c26,c27,c28,c29,c30,c31,c32,c33,c34,c35,c36,c37,(.int .i64 i),(.slice (some ⟨b,0,none⟩) n cap),(.int .i64 n),(.bool true),(.bool true),(.slice (some ⟨b,0,none⟩) n cap),(.int .i64 i),(.pointer (some ⟨b,i.toNat*7,none⟩)),(.pointer (some ⟨b,i.toNat*7+5,none⟩)),(.agg #[.int .i64 y.nu,.int .i64 y.de]),(.pointer (some ⟨X,5,none⟩)),(.agg #[.int .i64 x.nu,.int .i64 x.de]),(.int .i64 c),(.bool false),(.bool false),c53,c54,c55,c56,c57,c58,c59,c60,c61,c62,c63,c64,c65,c66,c67,c68,c69],[]⟩ w6):
  Code.wp Tryz.prog (((Tryz.f44.body).bind (aCb 8)).getD .skip) Q ⟨#[c0,c1,c2,c3,c4,c5,c6,(.slice (some ⟨b,0,none⟩) n cap),c8,(.pointer (some ⟨X,0,none⟩)),(.int .i64 i),c11,c12,c13,c14,c15,c16,c17,c18,c19,c20,c21,c22,c23,c24,c25,c26,c27,c28,c29,c30,c31,c32,c33,c34,c35,c36,c37,c38,c39,c40,c41,c42,c43,c44,c45,c46,c47,c48,c49,c50,c51,c52,c53,c54,c55,c56,c57,c58,c59,c60,c61,c62,c63,c64,c65,c66,c67,c68,c69],[]⟩ W:=by
 conv=>arg 2;whnf
 have HQ:=yH hq;clear hq
 refine aAy (by kernel_rfl) [(.int .i64 i),(.slice (some ⟨b,0,none⟩) n cap),(.int .i64 n),(.bool true),(.bool true),(.slice (some ⟨b,0,none⟩) n cap),(.int .i64 i),(.pointer (some ⟨b,i.toNat*7,none⟩)),(.pointer (some ⟨b,i.toNat*7+5,none⟩)),(.agg #[.int .i64 y.nu,.int .i64 y.de]),(.pointer (some ⟨X,5,none⟩)),(.agg #[.int .i64 x.nu,.int .i64 x.de]),(.int .i64 c),(.bool false),(.bool false)]
  (fun w'=>Below W.heap.size W w') (by kernel_rfl) yZ.drew ?_
 intro af haf;simp only[yG,List.append_eq,List.cons_append,List.nil_append,puts,Act.put,yA,yC,yF,yD,yE]at haf;subst haf;refine⟨?_,?_⟩
 ·simp only[yG,List.append_eq,List.cons_append,List.nil_append,aA8];refine⟨?z1,?z2,?z3,?z4,?z5,?z7,?z8,?z9,?z10,?_,?z11,?_,?_,?z12,?z6,trivial⟩
  case z1|z2|z3|z4|z5|z6=>
   intro w' hS;refine yO rfl ?_;have HS:=yH hS;clear hS;go_wp2_with fail;all_goals first|exact HS|exact⟨rfl,HS⟩|rfl|exact⟨by omega,HS.out⟩
  case z7|z8|z9|z10|z11|z12=>
   intro w' hS;refine OpTo.wanted ?_ ?_
   kernel_rfl
   have HS:=yH hS;clear hS;go_wp2_with fail;all_goals first|exact HS|exact⟨rfl,HS⟩|rfl|exact⟨by omega,HS.out⟩
  ·intro w' hS;refine OpTo.wanted ?_ ?_
   kernel_rfl
   have hlt:=yM HB.out hS.size;have e5:=(hS.cell (p:=⟨b,i.toNat*7+5,none⟩) HB.out).trans HY5.out;have e6:=(hS.cell (p:=⟨b,i.toNat*7+6,none⟩) HB.out).trans HY6.out;have HS:=yH hS;clear hS;go_wp2_with fail;all_goals first|exact HS|exact⟨rfl,HS⟩|rfl|exact⟨by omega,HS.out⟩
  ·intro w' hS;refine OpTo.wanted ?_ ?_
   kernel_rfl
   have d0_0:=(KX.out.below hS KX.out.lt).cell 0;have d0_1:=(KX.out.below hS KX.out.lt).cell 1;have d0_2:=(KX.out.below hS KX.out.lt).cell 2;have d0_3:=(KX.out.below hS KX.out.lt).cell 3;have d0_4:=(KX.out.below hS KX.out.lt).cell 4;have d0_5:=(KX.out.below hS KX.out.lt).cell 5;have d0_6:=(KX.out.below hS KX.out.lt).cell 6;simp at d0_0 d0_1 d0_2 d0_3 d0_4 d0_5 d0_6;have HS:=yH hS;clear hS;go_wp2_with fail;all_goals first|exact HS|exact⟨rfl,HS⟩|rfl|exact⟨by omega,HS.out⟩
  intro w' hS;refine OpTo.wanted ?_ ?_
  kernel_rfl
  have HS:=yH hS;clear hS;go_wp2_with fail;refine(CC.out w').mono ?_;rintro e w'' ⟨rfl,hb2⟩;exact⟨rfl,andB HS.out hb2⟩
 intro w6 b6;exact HQ.out w6 b6
theorem best_end{W:World}{b X n cap:Nat}{i c:Int}{x y:Of}{ao:Option Addr}(i4:0≤i)(hn:n≤1000)(c0:decide (i<(n:Int))=false){Q:Exit→Act→World→Prop}{c0 c1 c2 c3 c4 c5 c6 c8 c9 c11 c12 c13 c14 c15 c16 c17 c18 c19 c20 c21 c22 c23 c24 c25 c26 c27 c28 c29 c30 c31 c32 c33 c34 c35 c36 c37 c38 c39 c40 c41 c42 c43 c44 c45 c46 c47 c48 c49 c50 c51 c52 c53 c54 c55 c56 c57 c58 c59 c60 c61 c62 c63 c64 c65 c66 c67 c68 c69:Value}
  (hq:∀w6,(fun w'=>Below W.heap.size W w') w6→Q .normal ⟨#[c0,c1,c2,c3,c4,c5,c6,(.slice ao n cap),c8,c9,(.int .i64 i),c11,c12,c13,c14,c15,c16,c17,c18,c19,c20,c21,c22,c23,c24,c25,c26,c27,c28,c29,c30,c31,c32,c33,c34,c35,c36,c37,(.int .i64 i),(.slice ao n cap),(.int .i64 n),(.bool false),(.bool false),undef,undef,undef,undef,undef,undef,undef,undef,undef,(.bool false),c53,c54,c55,c56,c57,c58,c59,c60,c61,c62,c63,c64,c65,c66,c67,c68,c69],[]⟩ w6):
  Code.wp Tryz.prog (((Tryz.f44.body).bind (aCb 8)).getD .skip) Q ⟨#[c0,c1,c2,c3,c4,c5,c6,(.slice ao n cap),c8,c9,(.int .i64 i),c11,c12,c13,c14,c15,c16,c17,c18,c19,c20,c21,c22,c23,c24,c25,c26,c27,c28,c29,c30,c31,c32,c33,c34,c35,c36,c37,c38,c39,c40,c41,c42,c43,c44,c45,c46,c47,c48,c49,c50,c51,c52,c53,c54,c55,c56,c57,c58,c59,c60,c61,c62,c63,c64,c65,c66,c67,c68,c69],[]⟩ W:=by
 conv=>arg 2;whnf
 have HQ:=yH hq;clear hq
 refine aAy (by kernel_rfl) [(.int .i64 i),(.slice ao n cap),(.int .i64 n),(.bool false),(.bool false),undef,undef,undef,undef,undef,undef,undef,undef,undef,(.bool false)]
  (fun w'=>Below W.heap.size W w') (by kernel_rfl) yZ.drew ?_
 intro af haf;simp only[yG,List.append_eq,List.cons_append,List.nil_append,puts,Act.put,yA,yC,yF,yD,yE]at haf;subst haf;refine⟨?_,?_⟩
 ·simp only[yG,List.append_eq,List.cons_append,List.nil_append,aA8];refine⟨?z1,?z2,?z3,?z4,?z5,?z7,?z8,?z9,?z10,?z11,?z12,?z13,?z14,?z15,?z6,trivial⟩
  case z1|z2|z3|z4|z5|z6=>
   intro w' hS;refine yO rfl ?_;have HS:=yH hS;clear hS;go_wp2_with fail;all_goals first|exact HS|exact⟨rfl,HS⟩|rfl|exact⟨by omega,HS.out⟩
  case z7|z8|z9|z10|z11|z12|z13|z14|z15=>
   intro w' hS;refine pAD (by kernel_rfl) rfl hS
 intro w6 b6;exact HQ.out w6 b6
end Go.Proofs.YtojbmnbphdcjfaaGreat
