/- Pieces of one proof. -/
import Derived.Test.YtngnfdnfpiiclaaGreatT05
import Derived.Maps.RangeWalk
set_option linter.all false
set_option maxHeartbeats 64000000
set_option maxRecDepth 100000
namespace Go.Proofs.YtngnfdnfpiiclaaGreat
open Go.RowKit
def ledC(ps:List Int)(v:Value):Array Value:=Array.ofFn (n:=18) fun i=>if i.val=17 then v else .bool (decide ((i.val:Int)∈ps))
theorem aG0(ps:List Int)(v:Value):(ledC ps v).size=18:=by simp[ledC]
theorem aLe(ps:List Int)(v:Value):(ledC ps v)[17]? = some v:=by simp[ledC]
theorem aF2(ps:List Int)(v:Value)(i:Nat)(h:i<17):(ledC ps v)[i]? = some (.bool (decide ((i:Int)∈ps))):=by
 have h1:i<18:=zQ
 have h2:i≠17:=zQ
 simp[ledC,h1,h2]
attribute [irreducible] ledC
structure LedM(w:World)(g m:Nat)(ps:List Int)(ls:List Ln):Prop where
 blk:Blk w g (ledC ps (.map (some m))) 155
 map:aDg w m ls
theorem LedM.keep{S:Nat→Prop}{w w':World}{g m:Nat}{ps:List Int}{ls:List Ln}(h:LedM w g m ps ls)(k:Keep S w w')(hg:¬S g)(hm:¬S m):LedM w' g m ps ls:=⟨h.blk.keep k hg,h.map.keep k hm⟩
theorem LedM.below{w w':World}{g m:Nat}{ps:List Int}{ls:List Ln}(h:LedM w g m ps ls)(k:Below w.heap.size w w'):LedM w' g m ps ls:=⟨h.blk.below k h.blk.lt,h.map.below k h.map.lt⟩
theorem LedM.ne{w:World}{g m:Nat}{ps:List Int}{ls:List Ln}(h:LedM w g m ps ls):m≠g:=h.map.ne_blk h.blk
theorem Blk.ledMap{w:World}{g:Nat}{ps:List Int}{v:Value}{t:TypeId}(h:Blk w g (ledC ps v) t):w.cell? ⟨g,17,none⟩=some v:=by rw[h.cell 17,aLe]
theorem Blk.ledHas{w:World}{g:Nat}{ps:List Int}{v:Value}{t:TypeId}(h:Blk w g (ledC ps v) t){p:Int}(h0:0≤p)(h1:p<17):w.cell? ⟨g,p.toNat,none⟩=some (.bool (decide (p∈ps))):=by
 rw[h.cell p.toNat,aF2 ps v p.toNat zQ,Int.toNat_of_nonneg h0]
theorem aMg{w:World}{g:Nat}{ps:List Int}{v:Value}(h:Blk w g (ledC ps v) 155):
  Calls Tryz.prog 98 #[.pointer (some ⟨g,0,none⟩)] w (yS w v):=by
 have d:=h.ledMap;clear h;go_enter Tryz.func98,Tryz.ntmps98;go_wp2;go_ret;exact⟨rfl,rfl⟩
theorem aSv{P:Program}(w:World)(t k e:TypeId)(p:Option Nat)(h:P.underlying t=some (.map k e)):
  (binOp .neq t (.map p) (.map none)).run P w=.ok (.bool p.isSome) w:=by
 have h1:∀d,(Op.equalIn (d+1) t (.map p) (.map none)).run P w=.ok p.isNone w:=fun d=>by cases p <;> simp[Op.equalIn,run_underlying h]
 have h2:=h1 9999;simp only[binOp];rw[show Op.equal t (.map p) (.map none)=Op.equalIn (9999+1) t (.map p) (.map none)from rfl];generalize Op.equalIn (9999+1) t (.map p) (.map none)=X at *
 cases p <;> simp[h2]
theorem made_of{w:World}{pv:Value}{o:Option Nat}(c:Calls Tryz.prog 98 #[pv] w (yS w (.map o))):
  Calls Tryz.prog 108 #[pv] w (yS w (.bool o.isSome)):=by
 have C:=yH c;have q:=aSv w _ _ _ o Tryz.underlying152;clear c;go_enter Tryz.func108,Tryz.ntmps108;go_wp2_with fail;refine C.o.mono ?_;rintro e w ⟨rfl,rfl⟩;go_wp2_with fail;go_ret;exact⟨rfl,rfl⟩
theorem aF3{w:World}{g m:Nat}{ps:List Int}(h:Blk w g (ledC ps (.map (some m))) 155):
  Calls Tryz.prog 108 #[.pointer (some ⟨g,0,none⟩)] w (yS w (.bool true)):=made_of (aMg h)
def mayP(p:Int):Bool:=decide (1≤p∧p≤16)
theorem aCr(p:Int)(w:World):Calls Tryz.prog 105 #[.int .u8 p] w (yS w (.bool (mayP p))):=by
 have hs:(¬1≤p∧mayP p=false)∨(1≤p∧p≤16∧mayP p=true)∨(1≤p∧¬p≤16∧mayP p=false):=by unfold mayP;simp;omega
 rcases hs with⟨h1,h2⟩|⟨h1,h3,h2⟩|⟨h1,h3,h2⟩
 all_goals
  rw[h2];clear h2;go_enter Tryz.func105,Tryz.ntmps105;go_wp2;go_ret;exact⟨rfl,rfl⟩
theorem aEi{w:World}{g m:Nat}{ps:List Int}(h:Blk w g (ledC ps (.map (some m))) 155)(hb:∀p∈ps,1≤p∧p≤16)(p:Int):
  Calls Tryz.prog 67 #[.pointer (some ⟨g,0,none⟩),.int .u8 p] w (yS w (.bool (decide (p∈ps)))):=by
 have C1:=yH (aF3 h);have C2:=yH (aCr p w)
 by_cases hp:1≤p∧p≤16
 ·obtain⟨p1,p2⟩:=hp;have d:=h.ledHas (p:=p) zQ zQ;rw[show mayP p=true by unfold mayP;simp;omega]at C2;have p3:0≤p:=zQ
  have p4:p<17:=zQ
  clear h hb;generalize decide (p∈ps)=b at *;go_enter Tryz.func67,Tryz.ntmps67;go_wp2_with fail;refine C1.o.mono ?_;rintro e w ⟨rfl,rfl⟩;go_wp2_with fail;refine C2.o.mono ?_;rintro e w ⟨rfl,rfl⟩;go_wp2_with fail;go_ret;exact⟨rfl,rfl⟩
 have hf:decide (p∈ps)=false:=by
  rw[decide_eq_false_iff_not];exact fun hm=>hp (hb p hm)
 rw[hf];rw[show mayP p=false by unfold mayP;simp;omega]at C2;clear h hb hp hf;go_enter Tryz.func67,Tryz.ntmps67;go_wp2_with fail;refine C1.o.mono ?_;rintro e w ⟨rfl,rfl⟩;go_wp2_with fail;refine C2.o.mono ?_;rintro e w ⟨rfl,rfl⟩;go_wp2_with fail;go_ret;exact⟨rfl,rfl⟩
def mayE(a b c:Int):Bool:=decide ((1≤a∧a≤16)∧(1≤b∧b≤16)∧a≠b∧1≤c∧c≤8)
theorem aSw(a b c:Int)(w:World):Calls Tryz.prog 146 #[.agg #[.int .u8 a,.int .u8 b,.int .u8 c]] w (yR w (.bool (mayE a b c))):=by
 have B:=yH ((Below.refl w.heap.size w).alloc yL (.cells #[.int .u8 a,.int .u8 b,.int .u8 c] 188));have C1:=yH (aCr a);have C2:=yH (aCr b)
 have hs:(mayP a=false∧mayE a b c=false)∨(mayP a=true∧mayP b=false∧mayE a b c=false)∨(mayP a=true∧mayP b=true∧(a==b)=true∧mayE a b c=false)∨
   (mayP a=true∧mayP b=true∧(a==b)=false∧¬1≤c∧mayE a b c=false)∨(mayP a=true∧mayP b=true∧(a==b)=false∧1≤c∧decide (c≤8)=false∧mayE a b c=false)∨(mayP a=true∧mayP b=true∧(a==b)=false∧1≤c∧c≤8∧mayE a b c=true):=by
  unfold mayP mayE
  by_cases e:a=b
  ·have:(a==b)=true:=by simp[e]
   rw[this];simp;omega
  have:(a==b)=false:=by simp[e]
  rw[this];simp;omega
 have hneq:(a != b)=!(a==b):=rfl;rcases hs with⟨h1,h2⟩|⟨h1,h3,h2⟩|⟨h1,h3,h4,h2⟩|⟨h1,h3,h4,h5,h2⟩|⟨h1,h3,h4,h5,h6,h2⟩|⟨h1,h3,h4,h5,h6,h2⟩
 ·rw[h1]at C1;rw[h2];clear h1 h2;go_enter Tryz.func146,Tryz.ntmps146;go_wp2_with fail;refine(C1.o _).mono ?_;rintro e w1 ⟨rfl,rfl⟩;go_wp2_with fail;go_ret;exact⟨rfl,B.o⟩
 all_goals
  rw[h1]at C1;rw[h3]at C2;rw[h2];clear h1 h3 h2;go_enter Tryz.func146,Tryz.ntmps146;go_wp2_with fail;refine(C1.o _).mono ?_;rintro e w1 ⟨rfl,rfl⟩;go_wp2_with fail;refine(C2.o _).mono ?_;rintro e w1 ⟨rfl,rfl⟩;go_wp2_with fail;go_ret;exact⟨rfl,B.o⟩
theorem aQm(x:Ln)(w:World):Calls Tryz.prog 99 #[.agg #[.int .u8 x.cr,.int .u8 x.de,.int .u8 x.cu],.agg #[.int .i64 x.li,.int .i64 x.db]] w (yR w (.agg #[.int .u8 x.cr,.int .u8 x.de,.int .u8 x.cu,.int .i64 x.li,.int .i64 x.db])):=by
 go_enter Tryz.func99,Tryz.ntmps99;go_wp2;refine bodyPost_ret (v:=.agg #[.int .u8 x.cr,.int .u8 x.de,.int .u8 x.cu,.int .i64 x.li,.int .i64 x.db]) (by simp[results,Tryz.results99,go_sem]) rfl ⟨rfl,?_⟩;exact((yZ.alloc yL _).alloc zV _).alloc zU _
theorem ledC_nil(m:Nat):ledC [] (.map (some m))=#[.bool false,.bool false,.bool false,.bool false,.bool false,.bool false,.bool false,.bool false,.bool false,.bool false,.bool false,.bool false,.bool false,.bool false,.bool false,.bool false,.bool false,.map (some m)]:=by
 unfold ledC;rfl
def NewPost(w:World)(e:Ending)(w':World):Prop:=∃g m,e=.returned (.pointer (some ⟨g,0,none⟩))∧LedM w' g m [] []∧w.heap.size≤g∧w.heap.size≤m∧Below w.heap.size w w'
theorem new_any(w:World):Calls Tryz.prog 43 #[] w (NewPost w):=by
 have hmm:=@run_makeMap Tryz.prog;go_enter Tryz.func43,Tryz.ntmps43;go_wp2;refine bodyPost_ret (v:=.pointer (some ⟨w.heap.size+1,0,none⟩)) (by simp[results,Tryz.results43,go_sem]) rfl ?_;refine⟨w.heap.size+1,w.heap.size,rfl,⟨?_,?_⟩,zQ,Nat.le_refl _,(yZ.alloc yL _).alloc zV _⟩
 ·rw[ledC_nil];exact pAB _ _ _ zV
 exact(aDg.made w).below (yZ.alloc yL _) zV
theorem ledC_set(ps:List Int)(v:Value){p:Int}(hp:1≤p∧p≤16)(qs:List Int)(hq:∀q,q∈qs↔(q=p∨q∈ps)):(ledC ps v).setIfInBounds p.toNat (.bool true)=ledC qs v:=by
 apply Array.ext_getElem?;intro j
 by_cases h18:j<18
 ·by_cases hj:j=p.toNat
  ·subst hj;rw[Array.getElem?_setIfInBounds_self_of_lt (by rw[aG0];exact h18),aF2 qs v _ zQ,Int.toNat_of_nonneg zQ];simp[(hq p).2 (.inl rfl)]
  rw[Array.getElem?_setIfInBounds_ne (Ne.symm hj)]
  by_cases h17:j=17
  ·subst h17;rw[aLe,aLe]
  rw[aF2 _ _ _ zQ,aF2 _ _ _ zQ]
  have:((j:Int)∈ps)↔((j:Int)∈qs):=by
   rw[hq]
   constructor
   ·exact .inr
   rintro(e|e)
   ·omega
   exact e
  simp[this]
 rw[Array.getElem?_eq_none (by simp[aG0];omega),Array.getElem?_eq_none (uT aG0)]
theorem open_any{w:World}{g m:Nat}{ps:List Int}{ls:List Ln}(h:LedM w g m ps ls)(hb:∀p∈ps,1≤p∧p≤16)(p:Int):
  Calls Tryz.prog 151 #[.pointer (some ⟨g,0,none⟩),.int .u8 p] w fun e w'=>e=.returned (.int .i64 (aH1 ps p))∧LedM w' g m (aGt ps p) ls∧Keep (·=g) w w':=by
 have C1:=yH (aF3 h.blk);have C2:=yH (aCr p w);have hne:=h.ne
 by_cases hp:1≤p∧p≤16
 ·obtain⟨p1,p2⟩:=hp;have d:=h.blk.ledHas (p:=p) zQ zQ;have f:=h.blk.frozen p.toNat;rw[show mayP p=true by unfold mayP;simp;omega]at C2;have p3:0≤p:=zQ
  have p4:p<17:=zQ
  by_cases hm:p∈ps
  ·have E:aH1 ps p=8∧aGt ps p=ps:=by unfold aH1 aGt;rw[if_neg zQ,if_pos hm,if_neg zQ,if_pos hm];exact⟨rfl,rfl⟩
   rw[E.1,E.2];have H:=yH h;rw[decide_eq_true hm]at d;clear h hb hm E;go_enter Tryz.func151,Tryz.ntmps151;go_wp2_with fail;refine C1.o.mono ?_;rintro e w ⟨rfl,rfl⟩;go_wp2_with fail;refine C2.o.mono ?_;rintro e w ⟨rfl,rfl⟩;go_wp2_with fail;go_ret;exact⟨rfl,H.o,Keep.refl _ _⟩
  have E:aH1 ps p=0∧aGt ps p=aC0 ps p 17:=by unfold aH1 aGt;rw[if_neg zQ,if_neg hm,if_neg zQ,if_neg hm];exact⟨rfl,rfl⟩
  rw[E.1,E.2]
  have H:Hid (LedM (w.setCell ⟨g,p.toNat,none⟩ (.bool true)) g m (aC0 ps p 17) ls∧Keep (·=g) w (w.setCell ⟨g,p.toNat,none⟩ (.bool true))):=yH (by
   have k:=(Keep.refl (·=g) w).setCell (p:=⟨g,p.toNat,none⟩) (.inl rfl) (.bool true);refine⟨⟨?_,h.map.keep k hne⟩,k⟩;have:=h.blk.set p.toNat (.bool true)
   rwa [ledC_set ps _ ⟨p1,p2⟩ (aC0 ps p 17) (fun q=>by
    rw[aEt]
    constructor
    ·exact fun k=>k.2
    rintro(rfl|k)
    ·exact⟨⟨p1,p2⟩,.inl rfl⟩
    exact⟨hb q k,.inr k⟩)]at this)
  rw[decide_eq_false hm]at d;clear h hb hm E;go_enter Tryz.func151,Tryz.ntmps151;go_wp2_with fail;refine C1.o.mono ?_;rintro e w ⟨rfl,rfl⟩;go_wp2_with fail;refine C2.o.mono ?_;rintro e w ⟨rfl,rfl⟩;go_wp2_with fail;go_ret;exact⟨rfl,H.o.1,H.o.2⟩
 have E:aH1 ps p=1∧aGt ps p=ps:=by unfold aH1 aGt;rw[if_pos zQ,if_pos zQ];exact⟨rfl,rfl⟩
 rw[E.1,E.2];have H:=yH h;rw[show mayP p=false by unfold mayP;simp;omega]at C2;clear h hb hp E;go_enter Tryz.func151,Tryz.ntmps151;go_wp2_with fail;refine C1.o.mono ?_;rintro e w ⟨rfl,rfl⟩;go_wp2_with fail;refine C2.o.mono ?_;rintro e w ⟨rfl,rfl⟩;go_wp2_with fail;go_ret;exact⟨rfl,H.o,Keep.refl _ _⟩
theorem wpList_store_row{P:Program}{ops:Array Oper}{rest:List Oper}{o:Oper}{a:Act}{w:World}{Q:Exit→Act→World→Prop}(hgd:o.guard=none)(ty:TypeId)(x y:Operand)(ho:o.op=.store ty x y)
  (g:Nat)(cells:Array Value)(hx:a.eval x=.pointer (some ⟨g,0,none⟩))(hy:a.eval y=.agg cells)
  (t:TypeId)(old:Array Value)(hg:w.heap[g]? = some (.cells old t (0,0)))(hi:(P.info? ty).map (·.size)=some cells.size)
  (hold:old.size=cells.size)(h1:cells.all (·.oneCell')=true)
  (h:wpList P ops Q rest (a.put o.dst undef) (w.setRow g cells)):wpList P ops Q (o::rest) a w:=
 wpList_plain hgd fun _ hK=>wp_store_row ty x y ho g cells hx hy t old hg hi hold h1 (hK _ _ h)
theorem aDg.looks{w:World}{m:Nat}{ls:List Ln}(h:aDg w m ls)(hI:Inv ls){a b c:Int}(ha:In8 a)(hb:In8 b)(hc:In8 c):∀w',Below w.heap.size w w'→
  (Instr.lookup 152 (.map (some m)) (.agg #[.int .u8 a,.int .u8 b,.int .u8 c]) true).run Tryz.prog w'=.ok (.tuple #[.agg #[.int .i64 (lnAt ls a b c).li,.int .i64 (lnAt ls a b c).db],.bool (aAm ls a b c).isSome]) w'∧
  (Instr.lookup 152 (.map (some m)) (.agg #[.int .u8 a,.int .u8 b,.int .u8 c]) false).run Tryz.prog w'=.ok (.agg #[.int .i64 (lnAt ls a b c).li,.int .i64 (lnAt ls a b c).db]) w':=
 fun w' k=>(h.below k h.lt).look hI ha hb hc
theorem LedM.alls{w:World}{G M:Nat}{ps:List Int}{ls:List Ln}(h:LedM w G M ps ls):∀w',Below w.heap.size w w'→Calls Tryz.prog 98 #[.pointer (some ⟨G,0,none⟩)] w' fun e w''=>e=.returned (.map (some M))∧w'=w'':=
 fun w' k=>aMg (h.blk.below k h.blk.lt)
theorem aFe(o:Option Ln):(o=none∧o.isSome=false)∨(∃x,o=some x∧o.isSome=true):=by cases o <;> simp
theorem gline_any{w:World}{G M:Nat}{ps:List Int}{ls:List Ln}(h:LedM w G M ps ls)(hI:Inv ls){a b c:Int}(ha:In8 a)(hb:In8 b)(hc:In8 c):
  Calls Tryz.prog 159 #[.pointer (some ⟨G,0,none⟩),.int .u8 a,.int .u8 b,.int .u8 c] w (yR w (lineV (aAm ls a b c))):=by
 have HA:=yH h.alls;have HL:=yH (fun w' k=>(h.map.looks hI ha hb hc w' k).1);rcases aFe (aAm ls a b c)with⟨hl,hs⟩|⟨x,hl,hs⟩
 ·rw[aAv hl,hs]at HL;rw[hl];dsimp only[noLn]at HL;clear hl hs h hI ha hb hc;go_enter Tryz.func159,Tryz.ntmps159;go_wp2_with fail;have B0:=yH (((Below.refl w.heap.size w).alloc yL (.cells #[.int .u8 0,.int .u8 0,.int .u8 0,.int .i64 0,.int .i64 0] 71)).alloc zV (.cells #[.int .u8 a,.int .u8 b,.int .u8 c] 188));have KZ:=yH ((Blk.new w #[.int .u8 0,.int .u8 0,.int .u8 0,.int .i64 0,.int .i64 0] 71).alloc (.cells #[.int .u8 a,.int .u8 b,.int .u8 c] 188));have KE:=yH (pAB (w.alloc (.cells #[.int .u8 0,.int .u8 0,.int .u8 0,.int .i64 0,.int .i64 0] 71)) #[.int .u8 a,.int .u8 b,.int .u8 c] 188 (g:=w.heap.size+1) zV);generalize ((w.alloc (.cells #[.int .u8 0,.int .u8 0,.int .u8 0,.int .i64 0,.int .i64 0] 71)).alloc (.cells #[.int .u8 a,.int .u8 b,.int .u8 c] 188))=W at B0 KZ KE ⊢
  refine aA7 zW (fun g:Nat→Nat=>[(.pointer (some ⟨G,0,none⟩)),(.map (some M)),(.agg #[.int .u8 a,.int .u8 b,.int .u8 c]),(.tuple #[.agg #[.int .i64 0,.int .i64 0],.bool false]),(.tuple #[.agg #[.int .i64 0,.int .i64 0],.bool false]),(.agg #[.int .i64 0,.int .i64 0]),(.bool false),(.pointer (some ⟨g 7,0,none⟩)),undef,(.bool false)])
   (Lays W [(⟨7,8,(.cells #[.int .i64 0,.int .i64 0] 190),(.cells #[.int .i64 0,.int .i64 0] 190)⟩:Spec)]) zW (fun _=>0) (Lays.start _ _ _) ?_
  intro AF hAF;simp only[yG,puts,Act.put,yA,yC,yF,yD,yE]at hAF;have hAF2:_=AF:=funext hAF;subst hAF2;clear hAF;refine⟨?_,?_⟩
  ·simp only[yG,aFo];refine⟨?_,?_,?_,?_,?_,?_,?_,?_,?_,?_,trivial⟩
   ·intro g D w' hD hW hC hI;refine⟨g,fun _ _ _=>rfl,?_⟩;with_reducible refine yO rfl ?_
    have HS:=yH (hI.step yZ (k:=0) zP);clear hI hC hW hD;go_wp2_with fail;all_goals first|exact HS|exact⟨rfl,HS⟩|rfl
   ·intro g D w' hD hW hC hI;refine⟨g,fun _ _ _=>rfl,?_⟩;with_reducible refine yO rfl ?_
    have hS:=hI.below;have HI:=yH hI;have HC:=yH (HA.o w' (B0.o.trans (hS.mono B0.o.size)));clear hI hS hC hW hD;go_wp2_with fail;refine HC.o.mono ?_;rintro e w'' ⟨rfl,rfl⟩;exact⟨rfl,HI.o.step yZ zP⟩
   ·intro g D w' hD hW hC hI;refine⟨g,fun _ _ _=>rfl,?_⟩;with_reducible refine yO rfl ?_
    have hS:=hI.below;have d0_0:=(KE.o.below hS KE.o.lt).cell 0;have d0_1:=(KE.o.below hS KE.o.lt).cell 1;have d0_2:=(KE.o.below hS KE.o.lt).cell 2;simp at d0_0 d0_1 d0_2;have HS:=yH (hI.step yZ (k:=2) zP);clear hI hS hC hW hD;go_wp2_with fail;all_goals first|exact HS|exact⟨rfl,HS⟩|rfl
   ·intro g D w' hD hW hC hI;refine⟨g,fun _ _ _=>rfl,?_⟩;with_reducible refine yO rfl ?_
    have hS:=hI.below;have q:=HL.o w' (B0.o.trans (hS.mono B0.o.size));have HS:=yH (hI.step yZ (k:=3) zP);clear hI hS hC hW hD;go_wp2_with fail;all_goals first|exact HS|exact⟨rfl,HS⟩|rfl
   ·intro g D w' hD hW hC hI;refine⟨g,fun _ _ _=>rfl,?_⟩;with_reducible refine yO rfl ?_
    have HS:=yH (hI.step yZ (k:=4) zP);clear hI hC hW hD;go_wp2_with fail;all_goals first|exact HS|exact⟨rfl,HS⟩|rfl
   ·intro g D w' hD hW hC hI;refine⟨g,fun _ _ _=>rfl,?_⟩;with_reducible refine yO rfl ?_
    have HS:=yH (hI.step yZ (k:=5) zP);clear hI hC hW hD;go_wp2_with fail;all_goals first|exact HS|exact⟨rfl,HS⟩|rfl
   ·intro g D w' hD hW hC hI;refine⟨g,fun _ _ _=>rfl,?_⟩;with_reducible refine yO rfl ?_
    have HS:=yH (hI.step yZ (k:=6) zP);clear hI hC hW hD;go_wp2_with fail;all_goals first|exact HS|exact⟨rfl,HS⟩|rfl
   ·intro g D w' hD hW hC hI;have hN:D 8=false:=aBl hC hD 12 8 zW;refine⟨upd g 7 w'.heap.size,aC7 _ (fun g:Nat→Nat=>[(.pointer (some ⟨G,0,none⟩)),(.map (some M)),(.agg #[.int .u8 a,.int .u8 b,.int .u8 c]),(.tuple #[.agg #[.int .i64 0,.int .i64 0],.bool false]),(.tuple #[.agg #[.int .i64 0,.int .i64 0],.bool false]),(.agg #[.int .i64 0,.int .i64 0]),(.bool false),(.pointer (some ⟨g 7,0,none⟩)),undef,(.bool false)]) g 7 _ 12 hC hD ?_,?_⟩
    ·intro j hj
     match j,hj with
     | 0,_=>exact .inr rfl
     | 1,_=>exact .inr rfl
     | 2,_=>exact .inr rfl
     | 3,_=>exact .inr rfl
     | 4,_=>exact .inr rfl
     | 5,_=>exact .inr rfl
     | 6,_=>exact .inr rfl
     | 7,_=>exact .inl (.inl rfl)
     | 8,_=>exact .inr rfl
     | 9,_=>exact .inr rfl
     | j+10,_=>exact .inr rfl
    with_reducible refine yO rfl ?_
    have HS:=yH (hI.lay (⟨7,8,(.cells #[.int .i64 0,.int .i64 0] 190),(.cells #[.int .i64 0,.int .i64 0] 190)⟩:Spec) zV zP (.inr hN) zP (fun s' hs' _=>List.mem_singleton.1 hs') (.cells #[.int .i64 0,.int .i64 0] 190) rfl);clear hI hC hW hD hN;go_wp2_with fail;all_goals first|exact HS|exact⟨rfl,HS⟩|rfl
   ·intro g D w' hD hW hC hI;have hP:D 7=true:=aA1 hC hW (d:=12) zW;obtain⟨hg,hk⟩:=hI.zeroed (⟨7,8,(.cells #[.int .i64 0,.int .i64 0] 190),(.cells #[.int .i64 0,.int .i64 0] 190)⟩:Spec) zV hP hD;refine⟨g,fun _ _ _=>rfl,?_⟩;with_reducible refine yO rfl ?_
    refine wp_store_row 190 (.tmp 11) (.tmp 22) rfl (g 7) #[.int .i64 0,.int .i64 0] rfl rfl 190 _ hk zW rfl zK ⟨rfl,?_⟩;exact hI.fill (⟨7,8,(.cells #[.int .i64 0,.int .i64 0] 190),(.cells #[.int .i64 0,.int .i64 0] 190)⟩:Spec) zV zP (show(8:Nat)≠7 by decide) (fun s' hs' _=>List.mem_singleton.1 hs') hP (aAc _ _) (setRow_heap w' (g 7) _ _ 190 (0,0) hk)
   intro g D w' hD hW hC hI;refine⟨g,fun _ _ _=>rfl,?_⟩;with_reducible refine yO rfl ?_
   have HS:=yH (hI.step yZ (k:=9) zP);clear hI hC hW hD;go_wp2_with fail;all_goals first|exact HS|exact⟨rfl,HS⟩|rfl
  intro g1 D w2 hall hI;obtain⟨hg1,hk1⟩:=hI.full (⟨7,8,(.cells #[.int .i64 0,.int .i64 0] 190),(.cells #[.int .i64 0,.int .i64 0] 190)⟩:Spec) zV (hall 7 zX) (hall 8 zX);have B2:=yH (B0.o.trans (hI.below.mono B0.o.size));have KZ2:=yH (KZ.o.below hI.below KZ.o.lt);dsimp only;generalize g1 7=ga at *;clear hI hall hk1 hg1 KZ KE B0 HA HL;go_wp2_with (refine wpList_store_row rfl 71 (.tmp 8) (.tmp 26) rfl w.heap.size #[.int .u8 0,.int .u8 0,.int .u8 0,.int .i64 0,.int .i64 0] rfl rfl 71 _ KZ2.o.out zW rfl zK ?_);refine bodyPost_ret (v:=.tuple #[noLn.val,.bool false]) (aAi rfl _ _ w.heap.size 71 #[.int .u8 0,.int .u8 0,.int .u8 0,.int .i64 0,.int .i64 0] _ _ rfl (setRow_heap w2 w.heap.size _ _ _ (0,0) KZ2.o.out) Tryz.underlying71 rfl zW rfl) rfl ⟨rfl,below_setRow B2.o yL _⟩
 rw[aAk hl,hs]at HL;rw[hl];obtain⟨_,rfl,rfl,rfl⟩:=aAq hl;clear hl hs h hI ha hb hc;go_enter Tryz.func159,Tryz.ntmps159;go_wp2_with fail;have B0:=yH (((Below.refl w.heap.size w).alloc yL (.cells #[.int .u8 0,.int .u8 0,.int .u8 0,.int .i64 0,.int .i64 0] 71)).alloc zV (.cells #[.int .u8 x.cr,.int .u8 x.de,.int .u8 x.cu] 188));have KZ:=yH ((Blk.new w #[.int .u8 0,.int .u8 0,.int .u8 0,.int .i64 0,.int .i64 0] 71).alloc (.cells #[.int .u8 x.cr,.int .u8 x.de,.int .u8 x.cu] 188));have KE:=yH (pAB (w.alloc (.cells #[.int .u8 0,.int .u8 0,.int .u8 0,.int .i64 0,.int .i64 0] 71)) #[.int .u8 x.cr,.int .u8 x.de,.int .u8 x.cu] 188 (g:=w.heap.size+1) zV);generalize ((w.alloc (.cells #[.int .u8 0,.int .u8 0,.int .u8 0,.int .i64 0,.int .i64 0] 71)).alloc (.cells #[.int .u8 x.cr,.int .u8 x.de,.int .u8 x.cu] 188))=W at B0 KZ KE ⊢
 refine aA7 zW (fun g:Nat→Nat=>[(.pointer (some ⟨G,0,none⟩)),(.map (some M)),(.agg #[.int .u8 x.cr,.int .u8 x.de,.int .u8 x.cu]),(.tuple #[.agg #[.int .i64 x.li,.int .i64 x.db],.bool true]),(.tuple #[.agg #[.int .i64 x.li,.int .i64 x.db],.bool true]),(.agg #[.int .i64 x.li,.int .i64 x.db]),(.bool true),(.pointer (some ⟨g 7,0,none⟩)),undef,(.bool true)])
  (Lays W [(⟨7,8,(.cells #[.int .i64 0,.int .i64 0] 190),(.cells #[.int .i64 x.li,.int .i64 x.db] 190)⟩:Spec)]) zW (fun _=>0) (Lays.start _ _ _) ?_
 intro AF hAF;simp only[yG,puts,Act.put,yA,yC,yF,yD,yE]at hAF;have hAF2:_=AF:=funext hAF;subst hAF2;clear hAF;refine⟨?_,?_⟩
 ·simp only[yG,aFo];refine⟨?_,?_,?_,?_,?_,?_,?_,?_,?_,?_,trivial⟩
  ·intro g D w' hD hW hC hI;refine⟨g,fun _ _ _=>rfl,?_⟩;with_reducible refine yO rfl ?_
   have HS:=yH (hI.step yZ (k:=0) zP);clear hI hC hW hD;go_wp2_with fail;all_goals first|exact HS|exact⟨rfl,HS⟩|rfl
  ·intro g D w' hD hW hC hI;refine⟨g,fun _ _ _=>rfl,?_⟩;with_reducible refine yO rfl ?_
   have hS:=hI.below;have HI:=yH hI;have HC:=yH (HA.o w' (B0.o.trans (hS.mono B0.o.size)));clear hI hS hC hW hD;go_wp2_with fail;refine HC.o.mono ?_;rintro e w'' ⟨rfl,rfl⟩;exact⟨rfl,HI.o.step yZ zP⟩
  ·intro g D w' hD hW hC hI;refine⟨g,fun _ _ _=>rfl,?_⟩;with_reducible refine yO rfl ?_
   have hS:=hI.below;have d0_0:=(KE.o.below hS KE.o.lt).cell 0;have d0_1:=(KE.o.below hS KE.o.lt).cell 1;have d0_2:=(KE.o.below hS KE.o.lt).cell 2;simp at d0_0 d0_1 d0_2;have HS:=yH (hI.step yZ (k:=2) zP);clear hI hS hC hW hD;go_wp2_with fail;all_goals first|exact HS|exact⟨rfl,HS⟩|rfl
  ·intro g D w' hD hW hC hI;refine⟨g,fun _ _ _=>rfl,?_⟩;with_reducible refine yO rfl ?_
   have hS:=hI.below;have q:=HL.o w' (B0.o.trans (hS.mono B0.o.size));have HS:=yH (hI.step yZ (k:=3) zP);clear hI hS hC hW hD;go_wp2_with fail;all_goals first|exact HS|exact⟨rfl,HS⟩|rfl
  ·intro g D w' hD hW hC hI;refine⟨g,fun _ _ _=>rfl,?_⟩;with_reducible refine yO rfl ?_
   have HS:=yH (hI.step yZ (k:=4) zP);clear hI hC hW hD;go_wp2_with fail;all_goals first|exact HS|exact⟨rfl,HS⟩|rfl
  ·intro g D w' hD hW hC hI;refine⟨g,fun _ _ _=>rfl,?_⟩;with_reducible refine yO rfl ?_
   have HS:=yH (hI.step yZ (k:=5) zP);clear hI hC hW hD;go_wp2_with fail;all_goals first|exact HS|exact⟨rfl,HS⟩|rfl
  ·intro g D w' hD hW hC hI;refine⟨g,fun _ _ _=>rfl,?_⟩;with_reducible refine yO rfl ?_
   have HS:=yH (hI.step yZ (k:=6) zP);clear hI hC hW hD;go_wp2_with fail;all_goals first|exact HS|exact⟨rfl,HS⟩|rfl
  ·intro g D w' hD hW hC hI;have hN:D 8=false:=aBl hC hD 12 8 zW;refine⟨upd g 7 w'.heap.size,aC7 _ (fun g:Nat→Nat=>[(.pointer (some ⟨G,0,none⟩)),(.map (some M)),(.agg #[.int .u8 x.cr,.int .u8 x.de,.int .u8 x.cu]),(.tuple #[.agg #[.int .i64 x.li,.int .i64 x.db],.bool true]),(.tuple #[.agg #[.int .i64 x.li,.int .i64 x.db],.bool true]),(.agg #[.int .i64 x.li,.int .i64 x.db]),(.bool true),(.pointer (some ⟨g 7,0,none⟩)),undef,(.bool true)]) g 7 _ 12 hC hD ?_,?_⟩
   ·intro j hj
    match j,hj with
    | 0,_=>exact .inr rfl
    | 1,_=>exact .inr rfl
    | 2,_=>exact .inr rfl
    | 3,_=>exact .inr rfl
    | 4,_=>exact .inr rfl
    | 5,_=>exact .inr rfl
    | 6,_=>exact .inr rfl
    | 7,_=>exact .inl (.inl rfl)
    | 8,_=>exact .inr rfl
    | 9,_=>exact .inr rfl
    | j+10,_=>exact .inr rfl
   with_reducible refine yO rfl ?_
   have HS:=yH (hI.lay (⟨7,8,(.cells #[.int .i64 0,.int .i64 0] 190),(.cells #[.int .i64 x.li,.int .i64 x.db] 190)⟩:Spec) zV zP (.inr hN) zP (fun s' hs' _=>List.mem_singleton.1 hs') (.cells #[.int .i64 0,.int .i64 0] 190) rfl);clear hI hC hW hD hN;go_wp2_with fail;all_goals first|exact HS|exact⟨rfl,HS⟩|rfl
  ·intro g D w' hD hW hC hI;have hP:D 7=true:=aA1 hC hW (d:=12) zW;obtain⟨hg,hk⟩:=hI.zeroed (⟨7,8,(.cells #[.int .i64 0,.int .i64 0] 190),(.cells #[.int .i64 x.li,.int .i64 x.db] 190)⟩:Spec) zV hP hD;refine⟨g,fun _ _ _=>rfl,?_⟩;with_reducible refine yO rfl ?_
   refine wp_store_row 190 (.tmp 11) (.tmp 22) rfl (g 7) #[.int .i64 x.li,.int .i64 x.db] rfl rfl 190 _ hk zW rfl zK ⟨rfl,?_⟩;exact hI.fill (⟨7,8,(.cells #[.int .i64 0,.int .i64 0] 190),(.cells #[.int .i64 x.li,.int .i64 x.db] 190)⟩:Spec) zV zP (show(8:Nat)≠7 by decide) (fun s' hs' _=>List.mem_singleton.1 hs') hP (aAc _ _) (setRow_heap w' (g 7) _ _ 190 (0,0) hk)
  intro g D w' hD hW hC hI;refine⟨g,fun _ _ _=>rfl,?_⟩;with_reducible refine yO rfl ?_
  have HS:=yH (hI.step yZ (k:=9) zP);clear hI hC hW hD;go_wp2_with fail;all_goals first|exact HS|exact⟨rfl,HS⟩|rfl
 intro g1 D w2 hall hI;obtain⟨hg1,hk1⟩:=hI.full (⟨7,8,(.cells #[.int .i64 0,.int .i64 0] 190),(.cells #[.int .i64 x.li,.int .i64 x.db] 190)⟩:Spec) zV (hall 7 zX) (hall 8 zX);have B2:=yH (B0.o.trans (hI.below.mono B0.o.size));have KZ2:=yH (KZ.o.below hI.below KZ.o.lt);have KE2:=yH (KE.o.below hI.below KE.o.lt);have KA2:Hid (Blk w2 (g1 7) #[.int .i64 x.li,.int .i64 x.db] 190):=yH hk1;dsimp only;generalize g1 7=ga at *;clear hI hall hk1 hg1 KZ KE B0 HA HL;have e0:=KE2.o.cell 0;have e1:=KE2.o.cell 1;have e2:=KE2.o.cell 2;have a0:=KA2.o.cell 0;have a1:=KA2.o.cell 1;simp at e0 e1 e2 a0 a1;have CL:=yH (aQm x w2);go_wp2_with fail;refine CL.o.mono ?_;rintro e w3 ⟨rfl,b3⟩;have B3:=yT B2 b3;have KZ3:=yB KZ2 b3;clear b3 KZ2 KE2 KA2 B2 CL e0 e1 e2 a0 a1;go_wp2_with (refine wpList_store_row rfl 71 (.tmp 8) (.tmp 29) rfl w.heap.size #[.int .u8 x.cr,.int .u8 x.de,.int .u8 x.cu,.int .i64 x.li,.int .i64 x.db] rfl rfl 71 _ KZ3.o.out zW rfl zK ?_);refine bodyPost_ret (v:=.tuple #[x.val,.bool true]) (aAi rfl _ _ w.heap.size 71 #[.int .u8 x.cr,.int .u8 x.de,.int .u8 x.cu,.int .i64 x.li,.int .i64 x.db] _ _ rfl (setRow_heap w3 w.heap.size _ _ _ (0,0) KZ3.o.out) Tryz.underlying71 rfl zW rfl) rfl ⟨rfl,below_setRow B3.o yL _⟩
theorem room_eq{ps:List Int}{ls:List Ln}(h:LInv ps ls)(a b c:Int):(lnAt ls a b c).db+(lnAt ls b a c).li - (lnAt ls b a c).db=aB3 ps ls a b c:=by
 unfold aB3
 by_cases hz:a=b∨a∉ps∨b∉ps
 ·rw[if_pos hz]
  have n1:aAm ls a b c=none:=by
   rw[aE0];intro y hy ⟨e1,e2,e3⟩;have g:=h.inv.good y hy;have k:=h.ends y hy;rw[e1,e2]at k;rcases hz with e|e|e
   ·exact g.ne (e1.trans (e.trans e2.symm))
   ·exact e k.1
   exact e k.2
  have n2:aAm ls b a c=none:=by
   rw[aE0];intro y hy ⟨e1,e2,e3⟩;have g:=h.inv.good y hy;have k:=h.ends y hy;rw[e1,e2]at k;rcases hz with e|e|e
   ·exact g.ne (e1.trans (e.symm.trans e2.symm))
   ·exact e k.2
   exact e k.1
  rw[aAv n1,aAv n2];rfl
 rw[if_neg hz]
theorem room_any{w:World}{G M:Nat}{ps:List Int}{ls:List Ln}(h:LedM w G M ps ls)(hI:LInv ps ls){a b c:Int}(ha:In8 a)(hb:In8 b)(hc:In8 c):
  Calls Tryz.prog 229 #[.pointer (some ⟨G,0,none⟩),.int .u8 a,.int .u8 b,.int .u8 c] w (yR w (.int .i64 (aB3 ps ls a b c))):=by
 have HA:=yH h.alls;have HX:=yH (fun w' k=>(h.map.looks hI.inv ha hb hc w' k).2);have HY:=yH (fun w' k=>(h.map.looks hI.inv hb ha hc w' k).2);have hx:=aFj hI.inv.good a b c;have hy:=aFj hI.inv.good b a c;have E:=yH (room_eq hI a b c);generalize lnAt ls a b c=x at *;generalize lnAt ls b a c=y at *;clear h hI ha hb hc;go_enter Tryz.func229,Tryz.ntmps229;go_wp2_with fail
 refine aA7 zW (fun g:Nat→Nat=>[(.pointer (some ⟨G,0,none⟩)),(.map (some M)),(.int .u8 a),(.int .u8 b),(.int .u8 c),(.agg #[.int .u8 a,.int .u8 b,.int .u8 c]),(.agg #[.int .i64 x.li,.int .i64 x.db]),(.pointer (some ⟨G,0,none⟩)),(.map (some M)),(.int .u8 b),(.int .u8 a),(.int .u8 c),(.agg #[.int .u8 b,.int .u8 a,.int .u8 c]),(.agg #[.int .i64 y.li,.int .i64 y.db]),(.pointer (some ⟨g 14,0,none⟩)),(.pointer (some ⟨g 15,0,none⟩)),undef,undef])
  (Lays w [(⟨14,16,(.cells #[.int .i64 0,.int .i64 0] 190),(.cells #[.int .i64 x.li,.int .i64 x.db] 190)⟩:Spec),(⟨15,17,(.cells #[.int .i64 0,.int .i64 0] 190),(.cells #[.int .i64 y.li,.int .i64 y.db] 190)⟩:Spec)]) zW (fun _=>0) (Lays.start _ _ _) ?_
 intro AF hAF;simp only[yG,puts,Act.put,yA,yC,yF,yD,yE]at hAF;have hAF2:_=AF:=funext hAF;subst hAF2;clear hAF;refine⟨?_,?_⟩
 ·simp only[yG,aFo];refine⟨?_,?z1,?_,?_,?_,?_,?_,?_,?z2,?_,?_,?_,?_,?_,?_,?_,?_,?_,trivial⟩
  case z1|z2=>
   intro g D w' hD hW hC hI;refine⟨g,fun _ _ _=>rfl,?_⟩;with_reducible refine yO rfl ?_
   have hS:=hI.below;have HI:=yH hI;have HC:=yH (HA.o w' hS);clear hI hS hC hW hD;go_wp2_with fail;refine HC.o.mono ?_;rintro e w'' ⟨rfl,rfl⟩;exact⟨rfl,HI.o.step yZ zP⟩
  ·intro g D w' hD hW hC hI;refine⟨g,fun _ _ _=>rfl,?_⟩;with_reducible refine yO rfl ?_
   have HS:=yH (hI.step yZ (k:=0) zP);clear hI hC hW hD;go_wp2_with fail;all_goals first|exact HS|exact⟨rfl,HS⟩|rfl
  ·intro g D w' hD hW hC hI;refine⟨g,fun _ _ _=>rfl,?_⟩;with_reducible refine yO rfl ?_
   have HS:=yH (hI.step yZ (k:=2) zP);clear hI hC hW hD;go_wp2_with fail;all_goals first|exact HS|exact⟨rfl,HS⟩|rfl
  ·intro g D w' hD hW hC hI;refine⟨g,fun _ _ _=>rfl,?_⟩;with_reducible refine yO rfl ?_
   have HS:=yH (hI.step yZ (k:=3) zP);clear hI hC hW hD;go_wp2_with fail;all_goals first|exact HS|exact⟨rfl,HS⟩|rfl
  ·intro g D w' hD hW hC hI;refine⟨g,fun _ _ _=>rfl,?_⟩;with_reducible refine yO rfl ?_
   have HS:=yH (hI.step yZ (k:=4) zP);clear hI hC hW hD;go_wp2_with fail;all_goals first|exact HS|exact⟨rfl,HS⟩|rfl
  ·intro g D w' hD hW hC hI;refine⟨g,fun _ _ _=>rfl,?_⟩;with_reducible refine yO rfl ?_
   have HS:=yH (hI.step yZ (k:=5) zP);clear hI hC hW hD;go_wp2_with fail;all_goals first|exact HS|exact⟨rfl,HS⟩|rfl
  ·intro g D w' hD hW hC hI;refine⟨g,fun _ _ _=>rfl,?_⟩;with_reducible refine yO rfl ?_
   have hS:=hI.below;have q:=HX.o w' hS;have HS:=yH (hI.step yZ (k:=6) zP);clear hI hS hC hW hD;go_wp2_with fail;all_goals first|exact HS|exact⟨rfl,HS⟩|rfl
  ·intro g D w' hD hW hC hI;refine⟨g,fun _ _ _=>rfl,?_⟩;with_reducible refine yO rfl ?_
   have HS:=yH (hI.step yZ (k:=7) zP);clear hI hC hW hD;go_wp2_with fail;all_goals first|exact HS|exact⟨rfl,HS⟩|rfl
  ·intro g D w' hD hW hC hI;refine⟨g,fun _ _ _=>rfl,?_⟩;with_reducible refine yO rfl ?_
   have HS:=yH (hI.step yZ (k:=9) zP);clear hI hC hW hD;go_wp2_with fail;all_goals first|exact HS|exact⟨rfl,HS⟩|rfl
  ·intro g D w' hD hW hC hI;refine⟨g,fun _ _ _=>rfl,?_⟩;with_reducible refine yO rfl ?_
   have HS:=yH (hI.step yZ (k:=10) zP);clear hI hC hW hD;go_wp2_with fail;all_goals first|exact HS|exact⟨rfl,HS⟩|rfl
  ·intro g D w' hD hW hC hI;refine⟨g,fun _ _ _=>rfl,?_⟩;with_reducible refine yO rfl ?_
   have HS:=yH (hI.step yZ (k:=11) zP);clear hI hC hW hD;go_wp2_with fail;all_goals first|exact HS|exact⟨rfl,HS⟩|rfl
  ·intro g D w' hD hW hC hI;refine⟨g,fun _ _ _=>rfl,?_⟩;with_reducible refine yO rfl ?_
   have HS:=yH (hI.step yZ (k:=12) zP);clear hI hC hW hD;go_wp2_with fail;all_goals first|exact HS|exact⟨rfl,HS⟩|rfl
  ·intro g D w' hD hW hC hI;refine⟨g,fun _ _ _=>rfl,?_⟩;with_reducible refine yO rfl ?_
   have hS:=hI.below;have q:=HY.o w' hS;have HS:=yH (hI.step yZ (k:=13) zP);clear hI hS hC hW hD;go_wp2_with fail;all_goals first|exact HS|exact⟨rfl,HS⟩|rfl
  ·intro g D w' hD hW hC hI;have hN:D 16=false:=aBl hC hD 12 16 zW;refine⟨upd g 14 w'.heap.size,aC7 _ (fun g:Nat→Nat=>[(.pointer (some ⟨G,0,none⟩)),(.map (some M)),(.int .u8 a),(.int .u8 b),(.int .u8 c),(.agg #[.int .u8 a,.int .u8 b,.int .u8 c]),(.agg #[.int .i64 x.li,.int .i64 x.db]),(.pointer (some ⟨G,0,none⟩)),(.map (some M)),(.int .u8 b),(.int .u8 a),(.int .u8 c),(.agg #[.int .u8 b,.int .u8 a,.int .u8 c]),(.agg #[.int .i64 y.li,.int .i64 y.db]),(.pointer (some ⟨g 14,0,none⟩)),(.pointer (some ⟨g 15,0,none⟩)),undef,undef]) g 14 _ 12 hC hD ?_,?_⟩
   ·intro j hj
    match j,hj with
    | 0,_=>exact .inr rfl
    | 1,_=>exact .inr rfl
    | 2,_=>exact .inr rfl
    | 3,_=>exact .inr rfl
    | 4,_=>exact .inr rfl
    | 5,_=>exact .inr rfl
    | 6,_=>exact .inr rfl
    | 7,_=>exact .inr rfl
    | 8,_=>exact .inr rfl
    | 9,_=>exact .inr rfl
    | 10,_=>exact .inr rfl
    | 11,_=>exact .inr rfl
    | 12,_=>exact .inr rfl
    | 13,_=>exact .inr rfl
    | 14,_=>exact .inl (.inl rfl)
    | 15,_=>exact .inr rfl
    | 16,_=>exact .inr rfl
    | 17,_=>exact .inr rfl
    | j+18,_=>exact .inr rfl
   with_reducible refine yO rfl ?_
   have HS:=yH (hI.lay (⟨14,16,(.cells #[.int .i64 0,.int .i64 0] 190),(.cells #[.int .i64 x.li,.int .i64 x.db] 190)⟩:Spec) zV zP (.inr hN) zP (by intro s' hs' he;simp only[yI,yJ,or_false]at hs';rcases hs' with rfl|rfl <;> first|rfl|(simp at he)) (.cells #[.int .i64 0,.int .i64 0] 190) rfl);clear hI hC hW hD hN;go_wp2_with fail;all_goals first|exact HS|exact⟨rfl,HS⟩|rfl
  ·intro g D w' hD hW hC hI;have hN:D 17=false:=aBl hC hD 12 17 zW;refine⟨upd g 15 w'.heap.size,aC7 _ (fun g:Nat→Nat=>[(.pointer (some ⟨G,0,none⟩)),(.map (some M)),(.int .u8 a),(.int .u8 b),(.int .u8 c),(.agg #[.int .u8 a,.int .u8 b,.int .u8 c]),(.agg #[.int .i64 x.li,.int .i64 x.db]),(.pointer (some ⟨G,0,none⟩)),(.map (some M)),(.int .u8 b),(.int .u8 a),(.int .u8 c),(.agg #[.int .u8 b,.int .u8 a,.int .u8 c]),(.agg #[.int .i64 y.li,.int .i64 y.db]),(.pointer (some ⟨g 14,0,none⟩)),(.pointer (some ⟨g 15,0,none⟩)),undef,undef]) g 15 _ 12 hC hD ?_,?_⟩
   ·intro j hj
    match j,hj with
    | 0,_=>exact .inr rfl
    | 1,_=>exact .inr rfl
    | 2,_=>exact .inr rfl
    | 3,_=>exact .inr rfl
    | 4,_=>exact .inr rfl
    | 5,_=>exact .inr rfl
    | 6,_=>exact .inr rfl
    | 7,_=>exact .inr rfl
    | 8,_=>exact .inr rfl
    | 9,_=>exact .inr rfl
    | 10,_=>exact .inr rfl
    | 11,_=>exact .inr rfl
    | 12,_=>exact .inr rfl
    | 13,_=>exact .inr rfl
    | 14,_=>exact .inr rfl
    | 15,_=>exact .inl (.inl rfl)
    | 16,_=>exact .inr rfl
    | 17,_=>exact .inr rfl
    | j+18,_=>exact .inr rfl
   with_reducible refine yO rfl ?_
   have HS:=yH (hI.lay (⟨15,17,(.cells #[.int .i64 0,.int .i64 0] 190),(.cells #[.int .i64 y.li,.int .i64 y.db] 190)⟩:Spec) zV zP (.inr hN) zP (by intro s' hs' he;simp only[yI,yJ,or_false]at hs';rcases hs' with rfl|rfl <;> first|rfl|(simp at he)) (.cells #[.int .i64 0,.int .i64 0] 190) rfl);clear hI hC hW hD hN;go_wp2_with fail;all_goals first|exact HS|exact⟨rfl,HS⟩|rfl
  ·intro g D w' hD hW hC hI;have hP:D 14=true:=aA1 hC hW (d:=12) zW;obtain⟨hg,hk⟩:=hI.zeroed (⟨14,16,(.cells #[.int .i64 0,.int .i64 0] 190),(.cells #[.int .i64 x.li,.int .i64 x.db] 190)⟩:Spec) zV hP hD;refine⟨g,fun _ _ _=>rfl,?_⟩;with_reducible refine yO rfl ?_
   refine wp_store_row 190 (.tmp 9) (.tmp 17) rfl (g 14) #[.int .i64 x.li,.int .i64 x.db] rfl rfl 190 _ hk zW rfl zK ⟨rfl,?_⟩;exact hI.fill (⟨14,16,(.cells #[.int .i64 0,.int .i64 0] 190),(.cells #[.int .i64 x.li,.int .i64 x.db] 190)⟩:Spec) zV zP (show(16:Nat)≠14 by decide) (by intro s' hs' he;simp only[yI,yJ,or_false]at hs';rcases hs' with rfl|rfl <;> first|rfl|(simp at he)) hP (aAc _ _) (setRow_heap w' (g 14) _ _ 190 (0,0) hk)
  intro g D w' hD hW hC hI;have hP:D 15=true:=aA1 hC hW (d:=12) zW;obtain⟨hg,hk⟩:=hI.zeroed (⟨15,17,(.cells #[.int .i64 0,.int .i64 0] 190),(.cells #[.int .i64 y.li,.int .i64 y.db] 190)⟩:Spec) zV hP hD;refine⟨g,fun _ _ _=>rfl,?_⟩;with_reducible refine yO rfl ?_
  refine wp_store_row 190 (.tmp 10) (.tmp 24) rfl (g 15) #[.int .i64 y.li,.int .i64 y.db] rfl rfl 190 _ hk zW rfl zK ⟨rfl,?_⟩;exact hI.fill (⟨15,17,(.cells #[.int .i64 0,.int .i64 0] 190),(.cells #[.int .i64 y.li,.int .i64 y.db] 190)⟩:Spec) zV zP (show(17:Nat)≠15 by decide) (by intro s' hs' he;simp only[yI,yJ,or_false]at hs';rcases hs' with rfl|rfl <;> first|rfl|(simp at he)) hP (aAc _ _) (setRow_heap w' (g 15) _ _ 190 (0,0) hk)
 intro g1 D w2 hall hI;obtain⟨hg1,hk1⟩:=hI.full (⟨14,16,(.cells #[.int .i64 0,.int .i64 0] 190),(.cells #[.int .i64 x.li,.int .i64 x.db] 190)⟩:Spec) zV (hall 14 zX) (hall 16 zX);obtain⟨hg2,hk2⟩:=hI.full (⟨15,17,(.cells #[.int .i64 0,.int .i64 0] 190),(.cells #[.int .i64 y.li,.int .i64 y.db] 190)⟩:Spec) zV (hall 15 zX) (hall 17 zX);have B2:=yH hI.below;have KX:Hid (Blk w2 (g1 14) #[.int .i64 x.li,.int .i64 x.db] 190):=yH hk1;have KY:Hid (Blk w2 (g1 15) #[.int .i64 y.li,.int .i64 y.db] 190):=yH hk2;dsimp only;generalize g1 14=gx at *;generalize g1 15=gy at *;clear hI hall hk1 hg1 hk2 hg2 HA HX HY;have x1:=KX.o.cell 1;have y0:=KY.o.cell 0;have y1:=KY.o.cell 1;simp at x1 y0 y1;go_wp2_with fail;go_ret;exact⟨by rw[←E.o];rfl,B2.o⟩
def oweL(ls:List Ln)(a b c n:Int):List Ln:=if(aAm ls a b c).isSome=true then setL ls ((lnAt ls a b c).owe ((lnAt ls a b c).db+n))else ls
theorem aSx{w:World}{G M:Nat}{ps:List Int}{ls:List Ln}(h:LedM w G M ps ls)(hI:Inv ls){a b c n:Int}(ha:In8 a)(hb:In8 b)(hc:In8 c)(hn:∀x,aAm ls a b c=some x→0≤x.db+n∧x.db+n≤x.li):
  Calls Tryz.prog 231 #[.pointer (some ⟨G,0,none⟩),.agg #[.int .u8 a,.int .u8 b,.int .u8 c],.int .i64 n] w fun e w'=>e=.returned (.tuple #[])∧LedM w' G M ps (oweL ls a b c n)∧Keep (·=M) w w':=by
 have H:=yH h;have HL:=yH (fun w' k=>(h.map.looks hI ha hb hc w' k).1);rcases aFe (aAm ls a b c)with⟨hl,hs⟩|⟨x,hl,hs⟩
 ·rw[aAv hl,hs]at HL;rw[show oweL ls a b c n=ls by unfold oweL;rw[hs];rfl];dsimp only[noLn]at HL;clear hl hs h hI ha hb hc hn;go_enter Tryz.func231,Tryz.ntmps231;go_wp2_with fail;have B0:=yH ((Below.refl w.heap.size w).alloc yL (.cells #[.int .u8 a,.int .u8 b,.int .u8 c] 188));have KE:=yH (Blk.new w #[.int .u8 a,.int .u8 b,.int .u8 c] 188);have HW:=yH (show(w.alloc (.cells #[.int .u8 a,.int .u8 b,.int .u8 c] 188)).heap.size=w.heap.size+1 by simp);generalize (w.alloc (.cells #[.int .u8 a,.int .u8 b,.int .u8 c] 188))=W at B0 KE HW ⊢
  refine aA7 zW (fun g:Nat→Nat=>[(.pointer (some ⟨G,0,none⟩)),(.pointer (some ⟨G,0,none⟩)),(.pointer (some ⟨G,17,none⟩)),(.map (some M)),(.agg #[.int .u8 a,.int .u8 b,.int .u8 c]),(.tuple #[.agg #[.int .i64 0,.int .i64 0],.bool false]),(.tuple #[.agg #[.int .i64 0,.int .i64 0],.bool false]),(.agg #[.int .i64 0,.int .i64 0]),(.bool false),(.pointer (some ⟨g 9,0,none⟩)),undef,(.bool false)])
   (Lays W [(⟨9,10,(.cells #[.int .i64 0,.int .i64 0] 190),(.cells #[.int .i64 0,.int .i64 0] 190)⟩:Spec)]) zW (fun _=>0) (Lays.start _ _ _) ?_
  intro AF hAF;simp only[yG,puts,Act.put,yA,yC,yF,yD,yE]at hAF;have hAF2:_=AF:=funext hAF;subst hAF2;clear hAF;refine⟨?_,?_⟩
  ·simp only[yG,aFo];refine⟨?_,?_,?_,?_,?_,?_,?_,?_,?_,?_,?_,?_,trivial⟩
   ·intro g D w' hD hW hC hI;refine⟨g,fun _ _ _=>rfl,?_⟩;with_reducible refine yO rfl ?_
    have HS:=yH (hI.step yZ (k:=0) zP);clear hI hC hW hD;go_wp2_with fail;all_goals first|exact HS|exact⟨rfl,HS⟩|rfl
   ·intro g D w' hD hW hC hI;refine⟨g,fun _ _ _=>rfl,?_⟩;with_reducible refine yO rfl ?_
    have HS:=yH (hI.step yZ (k:=1) zP);clear hI hC hW hD;go_wp2_with fail;all_goals first|exact HS|exact⟨rfl,HS⟩|rfl
   ·intro g D w' hD hW hC hI;refine⟨g,fun _ _ _=>rfl,?_⟩;with_reducible refine yO rfl ?_
    have HS:=yH (hI.step yZ (k:=2) zP);clear hI hC hW hD;go_wp2_with fail;all_goals first|exact HS|exact⟨rfl,HS⟩|rfl
   ·intro g D w' hD hW hC hI;refine⟨g,fun _ _ _=>rfl,?_⟩;with_reducible refine yO rfl ?_
    have hS:=hI.below;have d:=(H.o.blk.below (B0.o.trans (hS.mono B0.o.size)) H.o.blk.lt).ledMap;have HS:=yH (hI.step yZ (k:=3) zP);clear hI hS hC hW hD;go_wp2_with fail;all_goals first|exact HS|exact⟨rfl,HS⟩|rfl
   ·intro g D w' hD hW hC hI;refine⟨g,fun _ _ _=>rfl,?_⟩;with_reducible refine yO rfl ?_
    have hS:=hI.below;have d0_0:=(KE.o.below hS KE.o.lt).cell 0;have d0_1:=(KE.o.below hS KE.o.lt).cell 1;have d0_2:=(KE.o.below hS KE.o.lt).cell 2;simp at d0_0 d0_1 d0_2;have HS:=yH (hI.step yZ (k:=4) zP);clear hI hS hC hW hD;go_wp2_with fail;all_goals first|exact HS|exact⟨rfl,HS⟩|rfl
   ·intro g D w' hD hW hC hI;refine⟨g,fun _ _ _=>rfl,?_⟩;with_reducible refine yO rfl ?_
    have hS:=hI.below;have q:=HL.o w' (B0.o.trans (hS.mono B0.o.size));have HS:=yH (hI.step yZ (k:=5) zP);clear hI hS hC hW hD;go_wp2_with fail;all_goals first|exact HS|exact⟨rfl,HS⟩|rfl
   ·intro g D w' hD hW hC hI;refine⟨g,fun _ _ _=>rfl,?_⟩;with_reducible refine yO rfl ?_
    have HS:=yH (hI.step yZ (k:=6) zP);clear hI hC hW hD;go_wp2_with fail;all_goals first|exact HS|exact⟨rfl,HS⟩|rfl
   ·intro g D w' hD hW hC hI;refine⟨g,fun _ _ _=>rfl,?_⟩;with_reducible refine yO rfl ?_
    have HS:=yH (hI.step yZ (k:=7) zP);clear hI hC hW hD;go_wp2_with fail;all_goals first|exact HS|exact⟨rfl,HS⟩|rfl
   ·intro g D w' hD hW hC hI;refine⟨g,fun _ _ _=>rfl,?_⟩;with_reducible refine yO rfl ?_
    have HS:=yH (hI.step yZ (k:=8) zP);clear hI hC hW hD;go_wp2_with fail;all_goals first|exact HS|exact⟨rfl,HS⟩|rfl
   ·intro g D w' hD hW hC hI;have hN:D 10=false:=aBl hC hD 12 10 zW;refine⟨upd g 9 w'.heap.size,aC7 _ (fun g:Nat→Nat=>[(.pointer (some ⟨G,0,none⟩)),(.pointer (some ⟨G,0,none⟩)),(.pointer (some ⟨G,17,none⟩)),(.map (some M)),(.agg #[.int .u8 a,.int .u8 b,.int .u8 c]),(.tuple #[.agg #[.int .i64 0,.int .i64 0],.bool false]),(.tuple #[.agg #[.int .i64 0,.int .i64 0],.bool false]),(.agg #[.int .i64 0,.int .i64 0]),(.bool false),(.pointer (some ⟨g 9,0,none⟩)),undef,(.bool false)]) g 9 _ 12 hC hD ?_,?_⟩
    ·intro j hj
     match j,hj with
     | 0,_=>exact .inr rfl
     | 1,_=>exact .inr rfl
     | 2,_=>exact .inr rfl
     | 3,_=>exact .inr rfl
     | 4,_=>exact .inr rfl
     | 5,_=>exact .inr rfl
     | 6,_=>exact .inr rfl
     | 7,_=>exact .inr rfl
     | 8,_=>exact .inr rfl
     | 9,_=>exact .inl (.inl rfl)
     | 10,_=>exact .inr rfl
     | 11,_=>exact .inr rfl
     | j+12,_=>exact .inr rfl
    with_reducible refine yO rfl ?_
    have HS:=yH (hI.lay (⟨9,10,(.cells #[.int .i64 0,.int .i64 0] 190),(.cells #[.int .i64 0,.int .i64 0] 190)⟩:Spec) zV zP (.inr hN) zP (fun s' hs' _=>List.mem_singleton.1 hs') (.cells #[.int .i64 0,.int .i64 0] 190) rfl);clear hI hC hW hD hN;go_wp2_with fail;all_goals first|exact HS|exact⟨rfl,HS⟩|rfl
   ·intro g D w' hD hW hC hI;have hP:D 9=true:=aA1 hC hW (d:=12) zW;obtain⟨hg,hk⟩:=hI.zeroed (⟨9,10,(.cells #[.int .i64 0,.int .i64 0] 190),(.cells #[.int .i64 0,.int .i64 0] 190)⟩:Spec) zV hP hD;refine⟨g,fun _ _ _=>rfl,?_⟩;with_reducible refine yO rfl ?_
    refine wp_store_row 190 (.tmp 6) (.tmp 15) rfl (g 9) #[.int .i64 0,.int .i64 0] rfl rfl 190 _ hk zW rfl zK ⟨rfl,?_⟩;exact hI.fill (⟨9,10,(.cells #[.int .i64 0,.int .i64 0] 190),(.cells #[.int .i64 0,.int .i64 0] 190)⟩:Spec) zV zP (show(10:Nat)≠9 by decide) (fun s' hs' _=>List.mem_singleton.1 hs') hP (aAc _ _) (setRow_heap w' (g 9) _ _ 190 (0,0) hk)
   intro g D w' hD hW hC hI;refine⟨g,fun _ _ _=>rfl,?_⟩;with_reducible refine yO rfl ?_
   have HS:=yH (hI.step yZ (k:=11) zP);clear hI hC hW hD;go_wp2_with fail;all_goals first|exact HS|exact⟨rfl,HS⟩|rfl
  intro g1 D w2 hall hI;obtain⟨hg1,hk1⟩:=hI.full (⟨9,10,(.cells #[.int .i64 0,.int .i64 0] 190),(.cells #[.int .i64 0,.int .i64 0] 190)⟩:Spec) zV (hall 9 zX) (hall 10 zX);rw[HW.o]at hg1;have B2:=yH (B0.o.trans (hI.below.mono B0.o.size));dsimp only;generalize g1 9=ga at *;clear hI hall hk1 KE B0 HL;go_wp2_with fail;go_end0;exact⟨rfl,H.o.below B2.o,pAD B2.o⟩
 rw[aAk hl,hs]at HL;rw[show oweL ls a b c n=setL ls (x.owe (x.db+n)) by unfold oweL;rw[hs,aAk hl];rfl];obtain⟨n0,n1⟩:=hn x hl;obtain⟨hm,rfl,rfl,rfl⟩:=aAq hl;have hg:=hI.good x hm;have hf:=hg.fits;have hx0:(x.owe (x.db+n)).li≠0:=by have:=hg.li;show x.li≠0;omega
 have hli:=hg.li;have HN:Hid (In64 (x.db+n)):=yH ⟨zQ,zQ⟩;have b1:x.db+n≤9223372036854775807:=HN.o.2;clear hl hs h ha hb hc hn hm hg hli;go_enter Tryz.func231,Tryz.ntmps231;go_wp2_with fail;have B0:=yH ((Below.refl w.heap.size w).alloc yL (.cells #[.int .u8 x.cr,.int .u8 x.de,.int .u8 x.cu] 188));have KE:=yH (Blk.new w #[.int .u8 x.cr,.int .u8 x.de,.int .u8 x.cu] 188);have HW:=yH (show(w.alloc (.cells #[.int .u8 x.cr,.int .u8 x.de,.int .u8 x.cu] 188)).heap.size=w.heap.size+1 by simp);generalize (w.alloc (.cells #[.int .u8 x.cr,.int .u8 x.de,.int .u8 x.cu] 188))=W at B0 KE HW ⊢
 refine aA7 zW (fun g:Nat→Nat=>[(.pointer (some ⟨G,0,none⟩)),(.pointer (some ⟨G,0,none⟩)),(.pointer (some ⟨G,17,none⟩)),(.map (some M)),(.agg #[.int .u8 x.cr,.int .u8 x.de,.int .u8 x.cu]),(.tuple #[.agg #[.int .i64 x.li,.int .i64 x.db],.bool true]),(.tuple #[.agg #[.int .i64 x.li,.int .i64 x.db],.bool true]),(.agg #[.int .i64 x.li,.int .i64 x.db]),(.bool true),(.pointer (some ⟨g 9,0,none⟩)),undef,(.bool true)])
  (Lays W [(⟨9,10,(.cells #[.int .i64 0,.int .i64 0] 190),(.cells #[.int .i64 x.li,.int .i64 x.db] 190)⟩:Spec)]) zW (fun _=>0) (Lays.start _ _ _) ?_
 intro AF hAF;simp only[yG,puts,Act.put,yA,yC,yF,yD,yE]at hAF;have hAF2:_=AF:=funext hAF;subst hAF2;clear hAF;refine⟨?_,?_⟩
 ·simp only[yG,aFo];refine⟨?_,?_,?_,?_,?_,?_,?_,?_,?_,?_,?_,?_,trivial⟩
  ·intro g D w' hD hW hC hI;refine⟨g,fun _ _ _=>rfl,?_⟩;with_reducible refine yO rfl ?_
   have HS:=yH (hI.step yZ (k:=0) zP);clear hI hC hW hD;go_wp2_with fail;all_goals first|exact HS|exact⟨rfl,HS⟩|rfl
  ·intro g D w' hD hW hC hI;refine⟨g,fun _ _ _=>rfl,?_⟩;with_reducible refine yO rfl ?_
   have HS:=yH (hI.step yZ (k:=1) zP);clear hI hC hW hD;go_wp2_with fail;all_goals first|exact HS|exact⟨rfl,HS⟩|rfl
  ·intro g D w' hD hW hC hI;refine⟨g,fun _ _ _=>rfl,?_⟩;with_reducible refine yO rfl ?_
   have HS:=yH (hI.step yZ (k:=2) zP);clear hI hC hW hD;go_wp2_with fail;all_goals first|exact HS|exact⟨rfl,HS⟩|rfl
  ·intro g D w' hD hW hC hI;refine⟨g,fun _ _ _=>rfl,?_⟩;with_reducible refine yO rfl ?_
   have hS:=hI.below;have d:=(H.o.blk.below (B0.o.trans (hS.mono B0.o.size)) H.o.blk.lt).ledMap;have HS:=yH (hI.step yZ (k:=3) zP);clear hI hS hC hW hD;go_wp2_with fail;all_goals first|exact HS|exact⟨rfl,HS⟩|rfl
  ·intro g D w' hD hW hC hI;refine⟨g,fun _ _ _=>rfl,?_⟩;with_reducible refine yO rfl ?_
   have hS:=hI.below;have d0_0:=(KE.o.below hS KE.o.lt).cell 0;have d0_1:=(KE.o.below hS KE.o.lt).cell 1;have d0_2:=(KE.o.below hS KE.o.lt).cell 2;simp at d0_0 d0_1 d0_2;have HS:=yH (hI.step yZ (k:=4) zP);clear hI hS hC hW hD;go_wp2_with fail;all_goals first|exact HS|exact⟨rfl,HS⟩|rfl
  ·intro g D w' hD hW hC hI;refine⟨g,fun _ _ _=>rfl,?_⟩;with_reducible refine yO rfl ?_
   have hS:=hI.below;have q:=HL.o w' (B0.o.trans (hS.mono B0.o.size));have HS:=yH (hI.step yZ (k:=5) zP);clear hI hS hC hW hD;go_wp2_with fail;all_goals first|exact HS|exact⟨rfl,HS⟩|rfl
  ·intro g D w' hD hW hC hI;refine⟨g,fun _ _ _=>rfl,?_⟩;with_reducible refine yO rfl ?_
   have HS:=yH (hI.step yZ (k:=6) zP);clear hI hC hW hD;go_wp2_with fail;all_goals first|exact HS|exact⟨rfl,HS⟩|rfl
  ·intro g D w' hD hW hC hI;refine⟨g,fun _ _ _=>rfl,?_⟩;with_reducible refine yO rfl ?_
   have HS:=yH (hI.step yZ (k:=7) zP);clear hI hC hW hD;go_wp2_with fail;all_goals first|exact HS|exact⟨rfl,HS⟩|rfl
  ·intro g D w' hD hW hC hI;refine⟨g,fun _ _ _=>rfl,?_⟩;with_reducible refine yO rfl ?_
   have HS:=yH (hI.step yZ (k:=8) zP);clear hI hC hW hD;go_wp2_with fail;all_goals first|exact HS|exact⟨rfl,HS⟩|rfl
  ·intro g D w' hD hW hC hI;have hN:D 10=false:=aBl hC hD 12 10 zW;refine⟨upd g 9 w'.heap.size,aC7 _ (fun g:Nat→Nat=>[(.pointer (some ⟨G,0,none⟩)),(.pointer (some ⟨G,0,none⟩)),(.pointer (some ⟨G,17,none⟩)),(.map (some M)),(.agg #[.int .u8 x.cr,.int .u8 x.de,.int .u8 x.cu]),(.tuple #[.agg #[.int .i64 x.li,.int .i64 x.db],.bool true]),(.tuple #[.agg #[.int .i64 x.li,.int .i64 x.db],.bool true]),(.agg #[.int .i64 x.li,.int .i64 x.db]),(.bool true),(.pointer (some ⟨g 9,0,none⟩)),undef,(.bool true)]) g 9 _ 12 hC hD ?_,?_⟩
   ·intro j hj
    match j,hj with
    | 0,_=>exact .inr rfl
    | 1,_=>exact .inr rfl
    | 2,_=>exact .inr rfl
    | 3,_=>exact .inr rfl
    | 4,_=>exact .inr rfl
    | 5,_=>exact .inr rfl
    | 6,_=>exact .inr rfl
    | 7,_=>exact .inr rfl
    | 8,_=>exact .inr rfl
    | 9,_=>exact .inl (.inl rfl)
    | 10,_=>exact .inr rfl
    | 11,_=>exact .inr rfl
    | j+12,_=>exact .inr rfl
   with_reducible refine yO rfl ?_
   have HS:=yH (hI.lay (⟨9,10,(.cells #[.int .i64 0,.int .i64 0] 190),(.cells #[.int .i64 x.li,.int .i64 x.db] 190)⟩:Spec) zV zP (.inr hN) zP (fun s' hs' _=>List.mem_singleton.1 hs') (.cells #[.int .i64 0,.int .i64 0] 190) rfl);clear hI hC hW hD hN;go_wp2_with fail;all_goals first|exact HS|exact⟨rfl,HS⟩|rfl
  ·intro g D w' hD hW hC hI;have hP:D 9=true:=aA1 hC hW (d:=12) zW;obtain⟨hg,hk⟩:=hI.zeroed (⟨9,10,(.cells #[.int .i64 0,.int .i64 0] 190),(.cells #[.int .i64 x.li,.int .i64 x.db] 190)⟩:Spec) zV hP hD;refine⟨g,fun _ _ _=>rfl,?_⟩;with_reducible refine yO rfl ?_
   refine wp_store_row 190 (.tmp 6) (.tmp 15) rfl (g 9) #[.int .i64 x.li,.int .i64 x.db] rfl rfl 190 _ hk zW rfl zK ⟨rfl,?_⟩;exact hI.fill (⟨9,10,(.cells #[.int .i64 0,.int .i64 0] 190),(.cells #[.int .i64 x.li,.int .i64 x.db] 190)⟩:Spec) zV zP (show(10:Nat)≠9 by decide) (fun s' hs' _=>List.mem_singleton.1 hs') hP (aAc _ _) (setRow_heap w' (g 9) _ _ 190 (0,0) hk)
  intro g D w' hD hW hC hI;refine⟨g,fun _ _ _=>rfl,?_⟩;with_reducible refine yO rfl ?_
  have HS:=yH (hI.step yZ (k:=11) zP);clear hI hC hW hD;go_wp2_with fail;all_goals first|exact HS|exact⟨rfl,HS⟩|rfl
 intro g1 D w2 hall hI;obtain⟨hg1,hk1⟩:=hI.full (⟨9,10,(.cells #[.int .i64 0,.int .i64 0] 190),(.cells #[.int .i64 x.li,.int .i64 x.db] 190)⟩:Spec) zV (hall 9 zX) (hall 10 zX);rw[HW.o]at hg1;have B2:=yH (B0.o.trans (hI.below.mono B0.o.size));have KE2:=yH (KE.o.below hI.below KE.o.lt);have KA2:Hid (Blk w2 (g1 9) #[.int .i64 x.li,.int .i64 x.db] 190):=yH hk1;dsimp only;generalize g1 9=ga at *;clear hI hall hk1 KE B0 HL;have a1:=KA2.o.cell 1;have f1:=KA2.o.frozen 1;simp at a1;have B3:=yH (B2.o.setCell (p:=⟨ga,1,none⟩) (by show _≤ga;omega) (.int .i64 (x.db+n)));have KE3:=yH (KE2.o.setOther (a:=⟨ga,1,none⟩) (by show _≠ga;omega) (.int .i64 (x.db+n)));have KA3:Hid (Blk (w2.setCell ⟨ga,1,none⟩ (.int .i64 (x.db+n))) ga #[.int .i64 x.li,.int .i64 (x.db+n)] 190):=yH (KA2.o.set 1 (.int .i64 (x.db+n)));clear hg1;go_wp2_with fail;generalize w2.setCell ⟨ga,1,none⟩ (.int .i64 (x.db+n))=W3 at B3 KE3 KA3 ⊢;clear KE2 KA2 B2 a1 f1 HW;have H3:=yH (H.o.below B3.o)
 refine aCf zW 6 12 [(.pointer (some ⟨G,0,none⟩)),(.pointer (some ⟨G,0,none⟩)),(.pointer (some ⟨G,17,none⟩)),(.map (some M)),(.agg #[.int .u8 x.cr,.int .u8 x.de,.int .u8 x.cu]),(.agg #[.int .i64 x.li,.int .i64 (x.db+n)]),undef]
  (fun w'=>Below W3.heap.size W3 w') zW rfl zW yZ.drew ?_
 intro af haf;simp only[yG,puts,Act.put,yA,yC,yF,yD,yE]at haf;subst haf;refine⟨?_,?_⟩
 ·simp only[yG,List.take_succ_cons,List.take_zero,aA6];refine⟨?z1,?z2,?z3,?_,?_,?_,trivial⟩
  case z1|z2|z3=>
   intro w' hS;refine yO rfl ?_;have HS:=yH hS;clear hS;go_wp2_with fail;all_goals first|exact HS|exact⟨rfl,HS⟩|rfl
  ·intro w' hS;refine yO rfl ?_;have d:=(H3.o.blk.below hS H3.o.blk.lt).ledMap;have HS:=yH hS;clear hS;go_wp2_with fail;all_goals first|exact HS|exact⟨rfl,HS⟩|rfl
  ·intro w' hS;refine yO rfl ?_;have d0_0:=(KE3.o.below hS KE3.o.lt).cell 0;have d0_1:=(KE3.o.below hS KE3.o.lt).cell 1;have d0_2:=(KE3.o.below hS KE3.o.lt).cell 2;simp at d0_0 d0_1 d0_2;have HS:=yH hS;clear hS;go_wp2_with fail;all_goals first|exact HS|exact⟨rfl,HS⟩|rfl
  intro w' hS;refine yO rfl ?_;have d0_0:=(KA3.o.below hS KA3.o.lt).cell 0;have d0_1:=(KA3.o.below hS KA3.o.lt).cell 1;simp at d0_0 d0_1;have HS:=yH hS;clear hS;go_wp2_with fail;all_goals first|exact HS|exact⟨rfl,HS⟩|rfl
 simp only[yC,yA];intro w' hS;with_reducible refine yO rfl ?_
 obtain⟨w4,hr,hm4,ht4⟩:=(H3.o.map.below hS H3.o.map.lt).store hI (x:=x.owe (x.db+n)) ⟨hf.cr,hf.de,hf.cu,hf.li,HN.o⟩ hx0;refine aCm 152 (.tmp 26) (.tmp 27) (.tmp 28) rfl rfl rfl rfl hr ⟨rfl,?_⟩
 have HE:=yH (show LedM w4 G M ps (setL ls (x.owe (x.db+n)))∧Keep (·=M) w w4 from by
  have hk4:=ht4.keep;exact⟨⟨((H3.o.blk.below hS H3.o.blk.lt)).keep hk4 (fun e=>H.o.ne e.symm),hm4⟩,(pAD (B3.o.trans (hS.mono B3.o.size))).trans hk4⟩)
 clear hr hm4 ht4 hS;go_wp2_with fail;go_end0;exact⟨rfl,HE.o.1,HE.o.2⟩
theorem LedM.mades{w:World}{G M:Nat}{ps:List Int}{ls:List Ln}(h:LedM w G M ps ls):∀w',Below w.heap.size w w'→Calls Tryz.prog 108 #[.pointer (some ⟨G,0,none⟩)] w' fun e w''=>e=.returned (.bool true)∧w'=w'':=
 fun w' k=>aF3 (h.blk.below k h.blk.lt)
theorem setL_self{ls:List Ln}(h:Inv ls){y:Ln}(hy:y∈ls):setL ls y=ls:=by
 refine aEs _ _ (aIj h.sorted y) h.sorted fun z=>?_
 rw[aB8 h.sorted];have hl:=(h.good y hy).li
 constructor
 ·rintro(⟨a,_⟩|⟨rfl,_⟩)
  ·exact a
  exact hy
 intro hz
 by_cases hr:z.rank=y.rank
 ·refine .inr ⟨?_,zQ⟩;obtain⟨e1,e2,e3⟩:=aLd (h.good z hz).fits (h.good y hy).fits hr;have k1:=(aBy h y.cr y.de y.cu z).2 ⟨hz,e1,e2,e3⟩;have k2:=(aBy h y.cr y.de y.cu y).2 ⟨hy,rfl,rfl,rfl⟩;rw[k1]at k2;exact Option.some.inj k2
 exact .inl ⟨hz,hr⟩
theorem aMh{ls:List Ln}{a b c n:Int}(h:aAm ls a b c=none):oweL ls a b c n=ls:=by unfold oweL;rw[h];rfl
theorem aG1{ls:List Ln}{a b c n:Int}{x:Ln}(h:aAm ls a b c=some x):oweL ls a b c n=setL ls (x.owe (x.db+n)):=by unfold oweL;rw[h,aAk h];rfl
theorem oweL_inv{ls:List Ln}(h:Inv ls){a b c n:Int}(hn:∀x,aAm ls a b c=some x→0≤x.db+n∧x.db+n≤x.li):Inv (oweL ls a b c n):=by
 cases hl:aAm ls a b c with
 | none=>rw[aMh hl];exact h
 | some x=>
  rw[aG1 hl];have hg:=h.good x (aAq hl).1;have:=hn x hl;exact h.set fun _=>⟨hg.cr,hg.de,hg.cu,hg.ne,hg.li,this⟩
theorem oweL_other{ls:List Ln}(h:Inv ls){a b c n p q r:Int}(hn:∀x,aAm ls a b c=some x→0≤x.db+n∧x.db+n≤x.li)(hne:¬(a=p∧b=q∧c=r)):aAm (oweL ls a b c n) p q r=aAm ls p q r:=by
 cases hl:aAm ls a b c with
 | none=>rw[aMh hl]
 | some x=>
  rw[aG1 hl];obtain⟨hm,e1,e2,e3⟩:=aAq hl;have hg:=h.good x hm;have:=hn x hl;rw[line_set h (x:=x.owe (x.db+n)) (fun _=>⟨hg.cr,hg.de,hg.cu,hg.ne,hg.li,this⟩) (Ln.Good.fits ⟨hg.cr,hg.de,hg.cu,hg.ne,hg.li,this⟩) p q r,if_neg];rintro⟨k1,k2,k3⟩;exact hne ⟨e1.symm.trans k1,e2.symm.trans k2,e3.symm.trans k3⟩
theorem push_owe{ps:List Int}{ls:List Ln}(h:LInv ps ls){a b c n:Int}(h1:1≤n)(hr:n≤aB3 ps ls a b c):
  (∀x,aAm ls a b c=some x→0≤x.db + -(min n (lnAt ls a b c).db)∧x.db + -(min n (lnAt ls a b c).db)≤x.li)∧
  (∀y,aAm (oweL ls a b c (-(min n (lnAt ls a b c).db))) b a c=some y→0≤y.db+(n - min n (lnAt ls a b c).db)∧y.db+(n - min n (lnAt ls a b c).db)≤y.li)∧
  oweL (oweL ls a b c (-(min n (lnAt ls a b c).db))) b a c (n - min n (lnAt ls a b c).db)=aCz ls a b c n:=by
 have hab:a≠b:=by
  rintro rfl;unfold aB3 at hr;rw[if_pos (.inl rfl)]at hr;omega
 have hx:=aFj h.inv.good a b c;have hy:=aFj h.inv.good b a c;rw[←room_eq h a b c]at hr
 have p1:∀x,aAm ls a b c=some x→0≤x.db + -(min n (lnAt ls a b c).db)∧x.db + -(min n (lnAt ls a b c).db)≤x.li:=by
  intro x hl;rw[aAk hl]at hx ⊢;have:=(h.inv.good x (aAq hl).1).db;omega
 have ho:=oweL_other h.inv p1 (p:=b) (q:=a) (r:=c) zQ;have hi:=oweL_inv h.inv p1
 have e1:oweL ls a b c (-(min n (lnAt ls a b c).db))=aJw ls a b c n:=by
  unfold oweL aJw;rw[show(lnAt ls a b c).db + -(min n (lnAt ls a b c).db)=(lnAt ls a b c).db - min n (lnAt ls a b c).db by omega]
 have e2:push2 ls a b c n=n - min n (lnAt ls a b c).db:=by
  unfold push2
  cases hl:aAm ls a b c with
  | none=>rw[aAv hl];simp[noLn];omega
  | some x=>simp
 have ea:lnAt (oweL ls a b c (-(min n (lnAt ls a b c).db))) b a c=lnAt ls b a c:=by
  generalize oweL ls a b c (-(min n (lnAt ls a b c).db))=l1 at ho;unfold lnAt;rw[ho]
 refine⟨p1,?_,?_⟩
 ·intro y hl;rw[ho]at hl;rw[aAk hl]at hr hy;omega
 unfold aCz;rw[e2,←e1];generalize hls:oweL ls a b c (-(min n (lnAt ls a b c).db))=ls1 at *
 by_cases h0:0<n - min n (lnAt ls a b c).db
 ·rw[if_pos h0]
  cases hl:aAm ls1 b a c with
  | none=>
   rw[aAv hl]at ea;rw[←ea]at hr hy;simp only[noLn]at hr;omega
  | some y=>rw[aG1 hl,aAk hl]
 rw[if_neg h0];have hz:n - min n (lnAt ls a b c).db=0:=zQ
 rw[hz]
 cases hl:aAm ls1 b a c with
 | none=>exact aMh hl
 | some y=>
  rw[aG1 hl,show y.owe (y.db+0)=y by unfold Ln.owe;rw[Int.add_zero]];exact setL_self hi (aAq hl).1
theorem aSy{w:World}{G M:Nat}{ps:List Int}{ls:List Ln}(h:LedM w G M ps ls)(hI:Inv ls){a b c n:Int}(ha:In8 a)(hb:In8 b)(hc:In8 c)(hn:In64 n):
  Calls Tryz.prog 209 #[.pointer (some ⟨G,0,none⟩),.int .u8 a,.int .u8 b,.int .u8 c,.int .i64 n] w fun e w'=>e=.returned (.int .i64 (aBg ls a b c n))∧LedM w' G M ps (aBc ls a b c n)∧Keep (·=M) w w':=by
 have H:=yH h;have HA:=yH h.alls;have HM:=yH h.mades;have HL:=yH (fun w' k=>(h.map.looks hI ha hb hc w' k).1);obtain⟨n0,n1⟩:=hn;rcases aFe (aAm ls a b c)with⟨hl,hs⟩|⟨x,hl,hs⟩
 ·rw[aAv hl,hs]at HL;dsimp only[noLn]at HL;clear hs h hI ha hb hc;go_enter Tryz.func209,Tryz.ntmps209;go_wp2_with fail;have B0:=yH ((Below.refl w.heap.size w).alloc yL (.cells #[.int .u8 a,.int .u8 b,.int .u8 c] 188));have KE:=yH (Blk.new w #[.int .u8 a,.int .u8 b,.int .u8 c] 188);generalize (w.alloc (.cells #[.int .u8 a,.int .u8 b,.int .u8 c] 188))=W at B0 KE ⊢
  refine aA7 zW (fun g:Nat→Nat=>[(.pointer (some ⟨G,0,none⟩)),(.map (some M)),(.agg #[.int .u8 a,.int .u8 b,.int .u8 c]),(.tuple #[.agg #[.int .i64 0,.int .i64 0],.bool false]),(.tuple #[.agg #[.int .i64 0,.int .i64 0],.bool false]),(.agg #[.int .i64 0,.int .i64 0]),(.bool false),(.pointer (some ⟨g 7,0,none⟩)),undef,(.bool false)])
   (Lays W [(⟨7,8,(.cells #[.int .i64 0,.int .i64 0] 190),(.cells #[.int .i64 0,.int .i64 0] 190)⟩:Spec)]) zW (fun _=>0) (Lays.start _ _ _) ?_
  intro AF hAF;simp only[yG,puts,Act.put,yA,yC,yF,yD,yE]at hAF;have hAF2:_=AF:=funext hAF;subst hAF2;clear hAF;refine⟨?_,?_⟩
  ·simp only[yG,aFo];refine⟨?_,?_,?_,?_,?_,?_,?_,?_,?_,?_,trivial⟩
   ·intro g D w' hD hW hC hI;refine⟨g,fun _ _ _=>rfl,?_⟩;with_reducible refine yO rfl ?_
    have HS:=yH (hI.step yZ (k:=0) zP);clear hI hC hW hD;go_wp2_with fail;all_goals first|exact HS|exact⟨rfl,HS⟩|rfl
   ·intro g D w' hD hW hC hI;refine⟨g,fun _ _ _=>rfl,?_⟩;with_reducible refine yO rfl ?_
    have hS:=hI.below;have HI:=yH hI;have HC:=yH (HA.o w' (B0.o.trans (hS.mono B0.o.size)));clear hI hS hC hW hD;go_wp2_with fail;refine HC.o.mono ?_;rintro e w'' ⟨rfl,rfl⟩;exact⟨rfl,HI.o.step yZ zP⟩
   ·intro g D w' hD hW hC hI;refine⟨g,fun _ _ _=>rfl,?_⟩;with_reducible refine yO rfl ?_
    have hS:=hI.below;have d0_0:=(KE.o.below hS KE.o.lt).cell 0;have d0_1:=(KE.o.below hS KE.o.lt).cell 1;have d0_2:=(KE.o.below hS KE.o.lt).cell 2;simp at d0_0 d0_1 d0_2;have HS:=yH (hI.step yZ (k:=2) zP);clear hI hS hC hW hD;go_wp2_with fail;all_goals first|exact HS|exact⟨rfl,HS⟩|rfl
   ·intro g D w' hD hW hC hI;refine⟨g,fun _ _ _=>rfl,?_⟩;with_reducible refine yO rfl ?_
    have hS:=hI.below;have q:=HL.o w' (B0.o.trans (hS.mono B0.o.size));have HS:=yH (hI.step yZ (k:=3) zP);clear hI hS hC hW hD;go_wp2_with fail;all_goals first|exact HS|exact⟨rfl,HS⟩|rfl
   ·intro g D w' hD hW hC hI;refine⟨g,fun _ _ _=>rfl,?_⟩;with_reducible refine yO rfl ?_
    have HS:=yH (hI.step yZ (k:=4) zP);clear hI hC hW hD;go_wp2_with fail;all_goals first|exact HS|exact⟨rfl,HS⟩|rfl
   ·intro g D w' hD hW hC hI;refine⟨g,fun _ _ _=>rfl,?_⟩;with_reducible refine yO rfl ?_
    have HS:=yH (hI.step yZ (k:=5) zP);clear hI hC hW hD;go_wp2_with fail;all_goals first|exact HS|exact⟨rfl,HS⟩|rfl
   ·intro g D w' hD hW hC hI;refine⟨g,fun _ _ _=>rfl,?_⟩;with_reducible refine yO rfl ?_
    have HS:=yH (hI.step yZ (k:=6) zP);clear hI hC hW hD;go_wp2_with fail;all_goals first|exact HS|exact⟨rfl,HS⟩|rfl
   ·intro g D w' hD hW hC hI;have hN:D 8=false:=aBl hC hD 12 8 zW;refine⟨upd g 7 w'.heap.size,aC7 _ (fun g:Nat→Nat=>[(.pointer (some ⟨G,0,none⟩)),(.map (some M)),(.agg #[.int .u8 a,.int .u8 b,.int .u8 c]),(.tuple #[.agg #[.int .i64 0,.int .i64 0],.bool false]),(.tuple #[.agg #[.int .i64 0,.int .i64 0],.bool false]),(.agg #[.int .i64 0,.int .i64 0]),(.bool false),(.pointer (some ⟨g 7,0,none⟩)),undef,(.bool false)]) g 7 _ 12 hC hD ?_,?_⟩
    ·intro j hj
     match j,hj with
     | 0,_=>exact .inr rfl
     | 1,_=>exact .inr rfl
     | 2,_=>exact .inr rfl
     | 3,_=>exact .inr rfl
     | 4,_=>exact .inr rfl
     | 5,_=>exact .inr rfl
     | 6,_=>exact .inr rfl
     | 7,_=>exact .inl (.inl rfl)
     | 8,_=>exact .inr rfl
     | 9,_=>exact .inr rfl
     | j+10,_=>exact .inr rfl
    with_reducible refine yO rfl ?_
    have HS:=yH (hI.lay (⟨7,8,(.cells #[.int .i64 0,.int .i64 0] 190),(.cells #[.int .i64 0,.int .i64 0] 190)⟩:Spec) zV zP (.inr hN) zP (fun s' hs' _=>List.mem_singleton.1 hs') (.cells #[.int .i64 0,.int .i64 0] 190) rfl);clear hI hC hW hD hN;go_wp2_with fail;all_goals first|exact HS|exact⟨rfl,HS⟩|rfl
   ·intro g D w' hD hW hC hI;have hP:D 7=true:=aA1 hC hW (d:=12) zW;obtain⟨hg,hk⟩:=hI.zeroed (⟨7,8,(.cells #[.int .i64 0,.int .i64 0] 190),(.cells #[.int .i64 0,.int .i64 0] 190)⟩:Spec) zV hP hD;refine⟨g,fun _ _ _=>rfl,?_⟩;with_reducible refine yO rfl ?_
    refine wp_store_row 190 (.tmp 12) (.tmp 23) rfl (g 7) #[.int .i64 0,.int .i64 0] rfl rfl 190 _ hk zW rfl zK ⟨rfl,?_⟩;exact hI.fill (⟨7,8,(.cells #[.int .i64 0,.int .i64 0] 190),(.cells #[.int .i64 0,.int .i64 0] 190)⟩:Spec) zV zP (show(8:Nat)≠7 by decide) (fun s' hs' _=>List.mem_singleton.1 hs') hP (aAc _ _) (setRow_heap w' (g 7) _ _ 190 (0,0) hk)
   intro g D w' hD hW hC hI;refine⟨g,fun _ _ _=>rfl,?_⟩;with_reducible refine yO rfl ?_
   have HS:=yH (hI.step yZ (k:=9) zP);clear hI hC hW hD;go_wp2_with fail;all_goals first|exact HS|exact⟨rfl,HS⟩|rfl
  intro g1 D w2 hall hI2;obtain⟨hg1,hk1⟩:=hI2.full (⟨7,8,(.cells #[.int .i64 0,.int .i64 0] 190),(.cells #[.int .i64 0,.int .i64 0] 190)⟩:Spec) zV (hall 7 zX) (hall 8 zX);have B2:=yH (B0.o.trans (hI2.below.mono B0.o.size));have KA2:Hid (Blk w2 (g1 7) #[.int .i64 0,.int .i64 0] 190):=yH hk1;have C2:=yH (HM.o w2 B2.o);dsimp only;generalize g1 7=ga at *;clear hI2 hall hk1 KE B0 HL hg1 HA HM;have a1:=KA2.o.cell 1;simp at a1
  by_cases h1:n<1
  ·have EE:=yH (show aBg ls a b c n=1∧aBc ls a b c n=ls from⟨by unfold aBg;rw[if_pos h1],by unfold aBc aBg;rw[if_pos h1];rfl⟩);go_wp2_with fail;refine C2.o.mono ?_;rintro e w2 ⟨rfl,rfl⟩;go_wp2_with fail;go_ret;exact⟨zR,xO,pAD B2.o⟩
  have EE:=yH (show aBg ls a b c n=7∧aBc ls a b c n=ls from⟨by unfold aBg;rw[if_neg h1,if_pos hl],by unfold aBc aBg;rw[if_neg h1,if_pos hl];rfl⟩);clear hl;go_wp2_with fail;refine C2.o.mono ?_;rintro e w2 ⟨rfl,rfl⟩;go_wp2_with fail;go_ret;exact⟨zR,xO,pAD B2.o⟩
 rw[aAk hl,hs]at HL;obtain⟨hm,rfl,rfl,rfl⟩:=aAq hl;have hf:=(hI.good x hm).fits;have hd:=(hI.good x hm).db;clear h ha hb hc;go_enter Tryz.func209,Tryz.ntmps209;go_wp2_with fail;have B0:=yH ((Below.refl w.heap.size w).alloc yL (.cells #[.int .u8 x.cr,.int .u8 x.de,.int .u8 x.cu] 188));have KE:=yH (Blk.new w #[.int .u8 x.cr,.int .u8 x.de,.int .u8 x.cu] 188);generalize (w.alloc (.cells #[.int .u8 x.cr,.int .u8 x.de,.int .u8 x.cu] 188))=W at B0 KE ⊢
 refine aA7 zW (fun g:Nat→Nat=>[(.pointer (some ⟨G,0,none⟩)),(.map (some M)),(.agg #[.int .u8 x.cr,.int .u8 x.de,.int .u8 x.cu]),(.tuple #[.agg #[.int .i64 x.li,.int .i64 x.db],.bool true]),(.tuple #[.agg #[.int .i64 x.li,.int .i64 x.db],.bool true]),(.agg #[.int .i64 x.li,.int .i64 x.db]),(.bool true),(.pointer (some ⟨g 7,0,none⟩)),undef,(.bool true)])
  (Lays W [(⟨7,8,(.cells #[.int .i64 0,.int .i64 0] 190),(.cells #[.int .i64 x.li,.int .i64 x.db] 190)⟩:Spec)]) zW (fun _=>0) (Lays.start _ _ _) ?_
 intro AF hAF;simp only[yG,puts,Act.put,yA,yC,yF,yD,yE]at hAF;have hAF2:_=AF:=funext hAF;subst hAF2;clear hAF;refine⟨?_,?_⟩
 ·simp only[yG,aFo];refine⟨?_,?_,?_,?_,?_,?_,?_,?_,?_,?_,trivial⟩
  ·intro g D w' hD hW hC hI;refine⟨g,fun _ _ _=>rfl,?_⟩;with_reducible refine yO rfl ?_
   have HS:=yH (hI.step yZ (k:=0) zP);clear hI hC hW hD;go_wp2_with fail;all_goals first|exact HS|exact⟨rfl,HS⟩|rfl
  ·intro g D w' hD hW hC hI;refine⟨g,fun _ _ _=>rfl,?_⟩;with_reducible refine yO rfl ?_
   have hS:=hI.below;have HI:=yH hI;have HC:=yH (HA.o w' (B0.o.trans (hS.mono B0.o.size)));clear hI hS hC hW hD;go_wp2_with fail;refine HC.o.mono ?_;rintro e w'' ⟨rfl,rfl⟩;exact⟨rfl,HI.o.step yZ zP⟩
  ·intro g D w' hD hW hC hI;refine⟨g,fun _ _ _=>rfl,?_⟩;with_reducible refine yO rfl ?_
   have hS:=hI.below;have d0_0:=(KE.o.below hS KE.o.lt).cell 0;have d0_1:=(KE.o.below hS KE.o.lt).cell 1;have d0_2:=(KE.o.below hS KE.o.lt).cell 2;simp at d0_0 d0_1 d0_2;have HS:=yH (hI.step yZ (k:=2) zP);clear hI hS hC hW hD;go_wp2_with fail;all_goals first|exact HS|exact⟨rfl,HS⟩|rfl
  ·intro g D w' hD hW hC hI;refine⟨g,fun _ _ _=>rfl,?_⟩;with_reducible refine yO rfl ?_
   have hS:=hI.below;have q:=HL.o w' (B0.o.trans (hS.mono B0.o.size));have HS:=yH (hI.step yZ (k:=3) zP);clear hI hS hC hW hD;go_wp2_with fail;all_goals first|exact HS|exact⟨rfl,HS⟩|rfl
  ·intro g D w' hD hW hC hI;refine⟨g,fun _ _ _=>rfl,?_⟩;with_reducible refine yO rfl ?_
   have HS:=yH (hI.step yZ (k:=4) zP);clear hI hC hW hD;go_wp2_with fail;all_goals first|exact HS|exact⟨rfl,HS⟩|rfl
  ·intro g D w' hD hW hC hI;refine⟨g,fun _ _ _=>rfl,?_⟩;with_reducible refine yO rfl ?_
   have HS:=yH (hI.step yZ (k:=5) zP);clear hI hC hW hD;go_wp2_with fail;all_goals first|exact HS|exact⟨rfl,HS⟩|rfl
  ·intro g D w' hD hW hC hI;refine⟨g,fun _ _ _=>rfl,?_⟩;with_reducible refine yO rfl ?_
   have HS:=yH (hI.step yZ (k:=6) zP);clear hI hC hW hD;go_wp2_with fail;all_goals first|exact HS|exact⟨rfl,HS⟩|rfl
  ·intro g D w' hD hW hC hI;have hN:D 8=false:=aBl hC hD 12 8 zW;refine⟨upd g 7 w'.heap.size,aC7 _ (fun g:Nat→Nat=>[(.pointer (some ⟨G,0,none⟩)),(.map (some M)),(.agg #[.int .u8 x.cr,.int .u8 x.de,.int .u8 x.cu]),(.tuple #[.agg #[.int .i64 x.li,.int .i64 x.db],.bool true]),(.tuple #[.agg #[.int .i64 x.li,.int .i64 x.db],.bool true]),(.agg #[.int .i64 x.li,.int .i64 x.db]),(.bool true),(.pointer (some ⟨g 7,0,none⟩)),undef,(.bool true)]) g 7 _ 12 hC hD ?_,?_⟩
   ·intro j hj
    match j,hj with
    | 0,_=>exact .inr rfl
    | 1,_=>exact .inr rfl
    | 2,_=>exact .inr rfl
    | 3,_=>exact .inr rfl
    | 4,_=>exact .inr rfl
    | 5,_=>exact .inr rfl
    | 6,_=>exact .inr rfl
    | 7,_=>exact .inl (.inl rfl)
    | 8,_=>exact .inr rfl
    | 9,_=>exact .inr rfl
    | j+10,_=>exact .inr rfl
   with_reducible refine yO rfl ?_
   have HS:=yH (hI.lay (⟨7,8,(.cells #[.int .i64 0,.int .i64 0] 190),(.cells #[.int .i64 x.li,.int .i64 x.db] 190)⟩:Spec) zV zP (.inr hN) zP (fun s' hs' _=>List.mem_singleton.1 hs') (.cells #[.int .i64 0,.int .i64 0] 190) rfl);clear hI hC hW hD hN;go_wp2_with fail;all_goals first|exact HS|exact⟨rfl,HS⟩|rfl
  ·intro g D w' hD hW hC hI;have hP:D 7=true:=aA1 hC hW (d:=12) zW;obtain⟨hg,hk⟩:=hI.zeroed (⟨7,8,(.cells #[.int .i64 0,.int .i64 0] 190),(.cells #[.int .i64 x.li,.int .i64 x.db] 190)⟩:Spec) zV hP hD;refine⟨g,fun _ _ _=>rfl,?_⟩;with_reducible refine yO rfl ?_
   refine wp_store_row 190 (.tmp 12) (.tmp 23) rfl (g 7) #[.int .i64 x.li,.int .i64 x.db] rfl rfl 190 _ hk zW rfl zK ⟨rfl,?_⟩;exact hI.fill (⟨7,8,(.cells #[.int .i64 0,.int .i64 0] 190),(.cells #[.int .i64 x.li,.int .i64 x.db] 190)⟩:Spec) zV zP (show(8:Nat)≠7 by decide) (fun s' hs' _=>List.mem_singleton.1 hs') hP (aAc _ _) (setRow_heap w' (g 7) _ _ 190 (0,0) hk)
  intro g D w' hD hW hC hI;refine⟨g,fun _ _ _=>rfl,?_⟩;with_reducible refine yO rfl ?_
  have HS:=yH (hI.step yZ (k:=9) zP);clear hI hC hW hD;go_wp2_with fail;all_goals first|exact HS|exact⟨rfl,HS⟩|rfl
 intro g1 D w2 hall hI2;obtain⟨hg1,hk1⟩:=hI2.full (⟨7,8,(.cells #[.int .i64 0,.int .i64 0] 190),(.cells #[.int .i64 x.li,.int .i64 x.db] 190)⟩:Spec) zV (hall 7 zX) (hall 8 zX);have B2:=yH (B0.o.trans (hI2.below.mono B0.o.size));have KE2:=yH (KE.o.below hI2.below KE.o.lt);have KA2:Hid (Blk w2 (g1 7) #[.int .i64 x.li,.int .i64 x.db] 190):=yH hk1;have C2:=yH (HM.o w2 B2.o);dsimp only;generalize g1 7=ga at *;clear hI2 hall hk1 KE B0 HL hg1 HA HM;have a1:=KA2.o.cell 1;simp at a1
 by_cases h1:n<1
 ·have EE:=yH (show aBg ls x.cr x.de x.cu n=1∧aBc ls x.cr x.de x.cu n=ls from⟨by unfold aBg;rw[if_pos h1],by unfold aBc aBg;rw[if_pos h1];rfl⟩);clear hl hs hm hd hI hf;go_wp2_with fail;refine C2.o.mono ?_;rintro e w2 ⟨rfl,rfl⟩;go_wp2_with fail;go_ret;exact⟨zR,xO,pAD B2.o⟩
 have hl2:¬aAm ls x.cr x.de x.cu=none:=by rw[hl];simp
 by_cases h2:x.db<n
 ·have EE:=yH (show aBg ls x.cr x.de x.cu n=14∧aBc ls x.cr x.de x.cu n=ls from⟨by unfold aBg;rw[if_neg h1,if_neg hl2,aAk hl,if_pos h2],by unfold aBc aBg;rw[if_neg h1,if_neg hl2,aAk hl,if_pos h2];rfl⟩);clear hl hs hm hd hl2 hI hf;go_wp2_with fail;refine C2.o.mono ?_;rintro e w2 ⟨rfl,rfl⟩;go_wp2_with fail;go_ret;exact⟨zR,xO,pAD B2.o⟩
 have e0:aBg ls x.cr x.de x.cu n=0:=by unfold aBg;rw[if_neg h1,if_neg hl2,aAk hl,if_neg h2]
 have eL:aBc ls x.cr x.de x.cu n=oweL ls x.cr x.de x.cu (-n):=by unfold aBc;rw[e0,if_pos rfl,aG1 hl,aAk hl,Int.sub_eq_add_neg]
 have EE:=yH (And.intro e0 eL);clear e0;have e0:=KE2.o.cell 0;have e1:=KE2.o.cell 1;have e2:=KE2.o.cell 2;simp at e0 e1 e2;have CO:=yH (aSx (H.o.below B2.o) hI (n := -n) hf.cr hf.de hf.cu (fun y hy=>by rw[hl]at hy;cases hy;have:=(hI.good x hm).db;omega));clear hl hs hm hd hl2 eL hI hf;go_wp2_with fail;refine C2.o.mono ?_;rintro e w2 ⟨rfl,rfl⟩;go_wp2_with fail;refine CO.o.mono ?_;rintro e w3 ⟨rfl,hL3,hK3⟩;have H3:=yH hL3;have K3:=yH ((pAD (S:=(·=M)) B2.o).trans hK3);clear hL3 hK3;go_wp2_with fail;go_ret;exact⟨zR,zJ,K3.o⟩
theorem ppush_any{w:World}{G M:Nat}{ps:List Int}{ls:List Ln}(h:LedM w G M ps ls)(hI:LInv ps ls){a b c n:Int}(ha:In8 a)(hb:In8 b)(hc:In8 c)(hn:In64 n):
  Calls Tryz.prog 195 #[.pointer (some ⟨G,0,none⟩),.int .u8 a,.int .u8 b,.int .u8 c,.int .i64 n] w fun e w'=>e=.returned (.int .i64 (aEv ps ls a b c n))∧LedM w' G M ps (aEn ps ls a b c n)∧Keep (·=M) w w':=by
 have H:=yH h;have C1:=yH (aF3 h.blk);have C2:=yH (room_any h hI ha hb hc);obtain⟨n0,n1⟩:=hn
 by_cases h1:n<1
 ·have EE:=yH (show aEv ps ls a b c n=1∧aEn ps ls a b c n=ls from⟨by unfold aEv;rw[if_pos h1],by unfold aEn aEv;rw[if_pos h1];rfl⟩);clear h hI ha hb hc C2;go_enter Tryz.func195,Tryz.ntmps195;go_wp2_with fail;refine C1.o.mono ?_;rintro e w ⟨rfl,rfl⟩;go_wp2_with fail;go_ret;exact⟨zR,by rw[EE.o.2];exact H.o,Keep.refl _ _⟩
 by_cases h2:aB3 ps ls a b c<n
 ·have EE:=yH (show aEv ps ls a b c n=11∧aEn ps ls a b c n=ls from⟨by unfold aEv;rw[if_neg h1,if_pos h2],by unfold aEn aEv;rw[if_neg h1,if_pos h2];rfl⟩);clear h hI ha hb hc;generalize aB3 ps ls a b c=r at *;go_enter Tryz.func195,Tryz.ntmps195;go_wp2_with fail;refine C1.o.mono ?_;rintro e w ⟨rfl,rfl⟩;go_wp2_with fail;refine C2.o.mono ?_;rintro e w1 ⟨rfl,b1⟩;have B1:=yH b1;clear b1;go_wp2_with fail;go_ret;exact⟨zR,by rw[EE.o.2];exact H.o.below B1.o,pAD B1.o⟩
 have e0:aEv ps ls a b c n=0:=by unfold aEv;rw[if_neg h1,if_neg h2]
 obtain⟨p1,p2,p3⟩:=push_owe hI (a:=a) (b:=b) (c:=c) (n:=n) zQ zQ;have EE:=yH (show aEv ps ls a b c n=0∧aEn ps ls a b c n=oweL (oweL ls a b c (-(min n (lnAt ls a b c).db))) b a c (n - min n (lnAt ls a b c).db)from⟨e0,by unfold aEn;rw[if_pos e0,p3]⟩);have hx:=aFj hI.inv.good a b c;have HX:=yH (fun w' k=>(h.map.looks hI.inv ha hb hc w' k).2);obtain⟨bk,hbk⟩:∃bk,min n (lnAt ls a b c).db=bk:=⟨_,rfl⟩;have k0:0≤bk:=zQ
 have k1:bk≤n:=zQ
 rw[hbk]at EE p1 p2;have P1:=yH p1;have P2:=yH p2;have hi2:=yH (oweL_inv hI.inv p1);have HI:=yH hI;have HAB:=yH (And.intro ha (And.intro hb hc));generalize hls:lnAt ls a b c=x at *;clear h hI ha hb hc p1 p2 p3 e0 hls;generalize aB3 ps ls a b c=r at *;go_enter Tryz.func195,Tryz.ntmps195;go_wp2_with fail;refine C1.o.mono ?_;rintro e w ⟨rfl,rfl⟩;go_wp2_with fail;refine C2.o.mono ?_;rintro e w1 ⟨rfl,b1⟩;have B1:=yH b1;clear b1 C1 C2;go_wp2_with fail;have B0:=yH ((B1.o.alloc B1.o.size (.cells #[.int .u8 a,.int .u8 b,.int .u8 c] 188)).alloc (B1.o.alloc B1.o.size (.cells #[.int .u8 a,.int .u8 b,.int .u8 c] 188)).size (.cells #[.int .u8 b,.int .u8 a,.int .u8 c] 188));have K1:=yH ((Blk.new w1 #[.int .u8 a,.int .u8 b,.int .u8 c] 188).alloc (.cells #[.int .u8 b,.int .u8 a,.int .u8 c] 188));have K2:=yH (pAB (w1.alloc (.cells #[.int .u8 a,.int .u8 b,.int .u8 c] 188)) #[.int .u8 b,.int .u8 a,.int .u8 c] 188 (g:=w1.heap.size+1) zV);have S1:=yH B1.o.size;generalize ((w1.alloc (.cells #[.int .u8 a,.int .u8 b,.int .u8 c] 188)).alloc (.cells #[.int .u8 b,.int .u8 a,.int .u8 c] 188))=W at B0 K1 K2 ⊢;generalize w1.heap.size=z at *
 refine aAl zW [(.int .i64 n),(.pointer (some ⟨G,0,none⟩)),(.pointer (some ⟨G,0,none⟩)),(.pointer (some ⟨G,17,none⟩)),(.map (some M)),(.agg #[.int .u8 a,.int .u8 b,.int .u8 c]),(.agg #[.int .i64 x.li,.int .i64 x.db]),(.int .i64 x.db),(.int .i64 bk),(.int .i64 bk)]
  (fun w'=>Below W.heap.size W w') zW yZ.drew ?_
 intro af haf;simp only[yG,List.append_eq,List.cons_append,List.nil_append,puts,Act.put,yA,yC,yF,yD,yE]at haf;subst haf;refine⟨?_,?_⟩
 ·simp only[yG,List.append_eq,List.cons_append,List.nil_append,aA6];refine⟨?z1,?z2,?z3,?z4,?_,?_,?_,?z5,?z6,?z7,trivial⟩
  case z1|z2|z3|z4|z5|z6|z7=>
   intro w' hS;refine yO rfl ?_;have HS:=yH hS;clear hS;go_wp2_with fail;all_goals first|exact HS|exact⟨rfl,HS⟩|rfl|exact⟨zQ,HS.o⟩
  ·intro w' hS;refine yO rfl ?_;have d:=(H.o.blk.below (B0.o.trans (hS.mono B0.o.size)) H.o.blk.lt).ledMap;have HS:=yH hS;clear hS;go_wp2_with fail;all_goals first|exact HS|exact⟨rfl,HS⟩|rfl|exact⟨zQ,HS.o⟩
  ·intro w' hS;refine yO rfl ?_;have d0_0:=(K1.o.below hS K1.o.lt).cell 0;have d0_1:=(K1.o.below hS K1.o.lt).cell 1;have d0_2:=(K1.o.below hS K1.o.lt).cell 2;simp at d0_0 d0_1 d0_2;have HS:=yH hS;clear hS;go_wp2_with fail;all_goals first|exact HS|exact⟨rfl,HS⟩|rfl|exact⟨zQ,HS.o⟩
  intro w' hS;refine yO rfl ?_;have q:=HX.o w' (B0.o.trans (hS.mono B0.o.size));have HS:=yH hS;clear hS;go_wp2_with fail;all_goals first|exact HS|exact⟨rfl,HS⟩|rfl|exact⟨zQ,HS.o⟩
 intro w2 hS;have B2:=yT B0 hS;have K12:=yB K1 hS;have K22:=yB K2 hS;have H2:=yH (H.o.below B2.o);have c0:=K12.o.cell 0;have c1:=K12.o.cell 1;have c2:=K12.o.cell 2;simp at c0 c1 c2;have CO:=yH (aSx H2.o HI.o.inv (n := -bk) HAB.o.1 HAB.o.2.1 HAB.o.2.2 P1.o);clear hS HX B0 K1 K2;go_wp2_with fail;refine CO.o.mono ?_;rintro e w3 ⟨rfl,hL3,hK3⟩;have hMlt:=H.o.map.lt;have hzM:¬z+1=M:=uF S1.o
 have K23:=yH (K22.o.keep hK3 hzM);have H3:=yH hL3;have KK:=yH ((pAD (S:=(·=M)) B2.o).trans hK3);have CO2:=yH (aSx H3.o hi2.out (n:=n - bk) HAB.o.2.1 HAB.o.1 HAB.o.2.2 P2.o);clear hL3 hK3 CO c0 c1 c2 K12 K22;have c0:=K23.o.cell 0;have c1:=K23.o.cell 1;have c2:=K23.o.cell 2;simp at c0 c1 c2;go_wp2_with fail;refine CO2.o.mono ?_;rintro e w4 ⟨rfl,hL4,hK4⟩;have H4:=yH hL4;have K4:=yH (KK.o.trans hK4);clear hL4 hK4 c0 c1 c2;go_wp2_with fail;go_ret;exact⟨zR,by rw[EE.o.2];exact H4.o,K4.o⟩
theorem ptrust_any{w:World}{G M:Nat}{ps:List Int}{ls:List Ln}(h:LedM w G M ps ls)(hI:LInv ps ls){a b c n:Int}(ha:In8 a)(hb:In8 b)(hc:In8 c):
  Calls Tryz.prog 152 #[.pointer (some ⟨G,0,none⟩),.int .u8 a,.int .u8 b,.int .u8 c,.int .i64 n] w fun e w'=>e=.returned (.int .i64 (aAo ps ls a b c n))∧LedM w' G M ps (aBa ps ls a b c n)∧Keep (·=M) w w':=by
 have H:=yH h;have HI:=yH hI;have HA:=yH h.alls;have HM:=yH h.mades;have HL:=yH (fun w' k=>(h.map.looks hI.inv ha hb hc w' k).1);rcases aFe (aAm ls a b c)with⟨hl,hs⟩|⟨x,hl,hs⟩
 ·rw[aAv hl,hs]at HL;dsimp only[noLn]at HL;clear hs h hI ha hb hc;go_enter Tryz.func152,Tryz.ntmps152;go_wp2_with fail;have B0:=yH ((Below.refl w.heap.size w).alloc yL (.cells #[.int .u8 a,.int .u8 b,.int .u8 c] 188));have KE:=yH (Blk.new w #[.int .u8 a,.int .u8 b,.int .u8 c] 188);generalize (w.alloc (.cells #[.int .u8 a,.int .u8 b,.int .u8 c] 188))=W at B0 KE ⊢
  refine aA7 zW (fun g:Nat→Nat=>[(.pointer (some ⟨G,0,none⟩)),(.map (some M)),(.agg #[.int .u8 a,.int .u8 b,.int .u8 c]),(.tuple #[.agg #[.int .i64 0,.int .i64 0],.bool false]),(.tuple #[.agg #[.int .i64 0,.int .i64 0],.bool false]),(.agg #[.int .i64 0,.int .i64 0]),(.bool false),(.pointer (some ⟨g 7,0,none⟩)),undef,(.bool false)])
   (Lays W [(⟨7,8,(.cells #[.int .i64 0,.int .i64 0] 190),(.cells #[.int .i64 0,.int .i64 0] 190)⟩:Spec)]) zW (fun _=>0) (Lays.start _ _ _) ?_
  intro AF hAF;simp only[yG,puts,Act.put,yA,yC,yF,yD,yE]at hAF;have hAF2:_=AF:=funext hAF;subst hAF2;clear hAF;refine⟨?_,?_⟩
  ·simp only[yG,aFo];refine⟨?_,?_,?_,?_,?_,?_,?_,?_,?_,?_,trivial⟩
   ·intro g D w' hD hW hC hI;refine⟨g,fun _ _ _=>rfl,?_⟩;with_reducible refine yO rfl ?_
    have HS:=yH (hI.step yZ (k:=0) zP);clear hI hC hW hD;go_wp2_with fail;all_goals first|exact HS|exact⟨rfl,HS⟩|rfl
   ·intro g D w' hD hW hC hI;refine⟨g,fun _ _ _=>rfl,?_⟩;with_reducible refine yO rfl ?_
    have hS:=hI.below;have HI:=yH hI;have HC:=yH (HA.o w' (B0.o.trans (hS.mono B0.o.size)));clear hI hS hC hW hD;go_wp2_with fail;refine HC.o.mono ?_;rintro e w'' ⟨rfl,rfl⟩;exact⟨rfl,HI.o.step yZ zP⟩
   ·intro g D w' hD hW hC hI;refine⟨g,fun _ _ _=>rfl,?_⟩;with_reducible refine yO rfl ?_
    have hS:=hI.below;have d0_0:=(KE.o.below hS KE.o.lt).cell 0;have d0_1:=(KE.o.below hS KE.o.lt).cell 1;have d0_2:=(KE.o.below hS KE.o.lt).cell 2;simp at d0_0 d0_1 d0_2;have HS:=yH (hI.step yZ (k:=2) zP);clear hI hS hC hW hD;go_wp2_with fail;all_goals first|exact HS|exact⟨rfl,HS⟩|rfl
   ·intro g D w' hD hW hC hI;refine⟨g,fun _ _ _=>rfl,?_⟩;with_reducible refine yO rfl ?_
    have hS:=hI.below;have q:=HL.o w' (B0.o.trans (hS.mono B0.o.size));have HS:=yH (hI.step yZ (k:=3) zP);clear hI hS hC hW hD;go_wp2_with fail;all_goals first|exact HS|exact⟨rfl,HS⟩|rfl
   ·intro g D w' hD hW hC hI;refine⟨g,fun _ _ _=>rfl,?_⟩;with_reducible refine yO rfl ?_
    have HS:=yH (hI.step yZ (k:=4) zP);clear hI hC hW hD;go_wp2_with fail;all_goals first|exact HS|exact⟨rfl,HS⟩|rfl
   ·intro g D w' hD hW hC hI;refine⟨g,fun _ _ _=>rfl,?_⟩;with_reducible refine yO rfl ?_
    have HS:=yH (hI.step yZ (k:=5) zP);clear hI hC hW hD;go_wp2_with fail;all_goals first|exact HS|exact⟨rfl,HS⟩|rfl
   ·intro g D w' hD hW hC hI;refine⟨g,fun _ _ _=>rfl,?_⟩;with_reducible refine yO rfl ?_
    have HS:=yH (hI.step yZ (k:=6) zP);clear hI hC hW hD;go_wp2_with fail;all_goals first|exact HS|exact⟨rfl,HS⟩|rfl
   ·intro g D w' hD hW hC hI;have hN:D 8=false:=aBl hC hD 12 8 zW;refine⟨upd g 7 w'.heap.size,aC7 _ (fun g:Nat→Nat=>[(.pointer (some ⟨G,0,none⟩)),(.map (some M)),(.agg #[.int .u8 a,.int .u8 b,.int .u8 c]),(.tuple #[.agg #[.int .i64 0,.int .i64 0],.bool false]),(.tuple #[.agg #[.int .i64 0,.int .i64 0],.bool false]),(.agg #[.int .i64 0,.int .i64 0]),(.bool false),(.pointer (some ⟨g 7,0,none⟩)),undef,(.bool false)]) g 7 _ 12 hC hD ?_,?_⟩
    ·intro j hj
     match j,hj with
     | 0,_=>exact .inr rfl
     | 1,_=>exact .inr rfl
     | 2,_=>exact .inr rfl
     | 3,_=>exact .inr rfl
     | 4,_=>exact .inr rfl
     | 5,_=>exact .inr rfl
     | 6,_=>exact .inr rfl
     | 7,_=>exact .inl (.inl rfl)
     | 8,_=>exact .inr rfl
     | 9,_=>exact .inr rfl
     | j+10,_=>exact .inr rfl
    with_reducible refine yO rfl ?_
    have HS:=yH (hI.lay (⟨7,8,(.cells #[.int .i64 0,.int .i64 0] 190),(.cells #[.int .i64 0,.int .i64 0] 190)⟩:Spec) zV zP (.inr hN) zP (fun s' hs' _=>List.mem_singleton.1 hs') (.cells #[.int .i64 0,.int .i64 0] 190) rfl);clear hI hC hW hD hN;go_wp2_with fail;all_goals first|exact HS|exact⟨rfl,HS⟩|rfl
   ·intro g D w' hD hW hC hI;have hP:D 7=true:=aA1 hC hW (d:=12) zW;obtain⟨hg,hk⟩:=hI.zeroed (⟨7,8,(.cells #[.int .i64 0,.int .i64 0] 190),(.cells #[.int .i64 0,.int .i64 0] 190)⟩:Spec) zV hP hD;refine⟨g,fun _ _ _=>rfl,?_⟩;with_reducible refine yO rfl ?_
    refine wp_store_row 190 (.tmp 12) (.tmp 23) rfl (g 7) #[.int .i64 0,.int .i64 0] rfl rfl 190 _ hk zW rfl zK ⟨rfl,?_⟩;exact hI.fill (⟨7,8,(.cells #[.int .i64 0,.int .i64 0] 190),(.cells #[.int .i64 0,.int .i64 0] 190)⟩:Spec) zV zP (show(8:Nat)≠7 by decide) (fun s' hs' _=>List.mem_singleton.1 hs') hP (aAc _ _) (setRow_heap w' (g 7) _ _ 190 (0,0) hk)
   intro g D w' hD hW hC hI;refine⟨g,fun _ _ _=>rfl,?_⟩;with_reducible refine yO rfl ?_
   have HS:=yH (hI.step yZ (k:=9) zP);clear hI hC hW hD;go_wp2_with fail;all_goals first|exact HS|exact⟨rfl,HS⟩|rfl
  intro g1 D w2 hall hI2;obtain⟨hg1,hk1⟩:=hI2.full (⟨7,8,(.cells #[.int .i64 0,.int .i64 0] 190),(.cells #[.int .i64 0,.int .i64 0] 190)⟩:Spec) zV (hall 7 zX) (hall 8 zX);have B2:=yH (B0.o.trans (hI2.below.mono B0.o.size));have KE2:=yH (KE.o.below hI2.below KE.o.lt);have KA2:Hid (Blk w2 (g1 7) #[.int .i64 0,.int .i64 0] 190):=yH hk1;have C2:=yH (HM.o w2 B2.o);have CM:=yH (aSw a b c w2);dsimp only;generalize g1 7=ga at *;clear hI2 hall hk1 KE B0 HL hg1 HA HM;have c0:=KE2.o.cell 0;have c1:=KE2.o.cell 1;have c2:=KE2.o.cell 2;simp at c0 c1 c2;go_wp2_with fail;refine C2.o.mono ?_;rintro e w2 ⟨rfl,rfl⟩;go_wp2_with fail;refine CM.o.mono ?_;rintro e w3 ⟨rfl,b3⟩;have B3:=yT B2 b3;have KE3:=yB KE2 b3;have KA3:=yB KA2 b3;have H3:=yH (H.o.below B3.o);clear b3 B2 KE2 KA2 C2 CM c0 c1 c2;have CHa:=yH (aEi H3.o.blk HI.o.bd a);have CHb:=yH (aEi H3.o.blk HI.o.bd b);have e0:=KE3.o.cell 0;have e1:=KE3.o.cell 1;have e2:=KE3.o.cell 2;have a1:=KA3.o.cell 1;simp at e0 e1 e2 a1
  by_cases hm1:mayE a b c=false
  ·have hm2:¬((1≤a∧a≤16)∧(1≤b∧b≤16)∧a≠b∧1≤c∧c≤8):=xZ
   have EE:=yH (show aAo ps ls a b c n=1∧aBa ps ls a b c n=ls from(by
     have k:aAo ps ls a b c n=1:=yP
     exact⟨k,zC⟩))
   rw[hm1];clear hm1 hm2;go_wp2_with fail;go_ret;exact⟨zR,zJ,pAD B3.o⟩
  have hm1:mayE a b c=true:=uN hm1
  have hm2:(1≤a∧a≤16)∧(1≤b∧b≤16)∧a≠b∧1≤c∧c≤8:=xZ
  rw[hm1];clear hm1
  by_cases l1:n<0
  ·have EE:=yH (show aAo ps ls a b c n=1∧aBa ps ls a b c n=ls from(by
     have k:aAo ps ls a b c n=1:=yP
     exact⟨k,zC⟩))
   clear hm2;go_wp2_with fail;go_ret;exact⟨zR,zJ,pAD B3.o⟩
  by_cases l2:1099511627776<n
  ·have EE:=yH (show aAo ps ls a b c n=1∧aBa ps ls a b c n=ls from(by
     have k:aAo ps ls a b c n=1:=yP
     exact⟨k,zC⟩))
   clear hm2;go_wp2_with fail;go_ret;exact⟨zR,zJ,pAD B3.o⟩
  by_cases pa:¬a∈ps
  ·have EE:=yH (show aAo ps ls a b c n=7∧aBa ps ls a b c n=ls from(by
     have k:aAo ps ls a b c n=7:=wC
     exact⟨k,zC⟩))
   rw[decide_eq_false pa]at CHa;clear hm2 pa;go_wp2_with fail;refine CHa.o.mono ?_;rintro e w3 ⟨rfl,rfl⟩;go_wp2_with fail;go_ret;exact⟨zR,zJ,pAD B3.o⟩
  have pa:=Decidable.not_not.1 pa
  by_cases pb:¬b∈ps
  ·have EE:=yH (show aAo ps ls a b c n=7∧aBa ps ls a b c n=ls from(by
     have k:aAo ps ls a b c n=7:=wD
     exact⟨k,zC⟩))
   rw[decide_eq_true pa]at CHa;rw[decide_eq_false pb]at CHb;clear hm2 pa pb;go_wp2_with fail;refine CHa.o.mono ?_;rintro e w3 ⟨rfl,rfl⟩;go_wp2_with fail;refine CHb.o.mono ?_;rintro e w3 ⟨rfl,rfl⟩;go_wp2_with fail;go_ret;exact⟨zR,zJ,pAD B3.o⟩
  have pb:=Decidable.not_not.1 pb;rw[decide_eq_true pa]at CHa;rw[decide_eq_true pb]at CHb;have hlen:=fun ty=>H3.o.map.len ty
  have hk64:=HI.o.len;obtain⟨k,hk⟩:∃k:Int,(ls.length:Int)=k:=⟨_,rfl⟩;simp only[hk]at hlen
  by_cases l4:n≠0∧k=64
  ·have EE:=yH (show aAo ps ls a b c n=9∧aBa ps ls a b c n=ls from(by
     have k:aAo ps ls a b c n=9:=by unfold aAo;rw[if_neg zQ,if_neg (not_or.2 ⟨fun k=>k pa,fun k=>k pb⟩),aAv hl,if_neg (by show ¬n<0;omega),if_pos ⟨hl,zQ,zQ⟩]
     exact⟨k,zC⟩))
   have q1:(n != 0)=true:=by simp;exact l4.1
   have q2:(k==64)=true:=by simp;exact l4.2
   have d:=H3.o.blk.ledMap;clear hm2 pa pb hl l4 hk;go_wp2_with fail;refine CHa.o.mono ?_;rintro e w3 ⟨rfl,rfl⟩;go_wp2_with fail;refine CHb.o.mono ?_;rintro e w3 ⟨rfl,rfl⟩;go_wp2_with fail;go_ret;exact⟨zR,zJ,pAD B3.o⟩
  by_cases l5:n=0
  ·subst l5
   have EE:=yH (show aAo ps ls a b c 0=0∧aBa ps ls a b c 0=setL ls (⟨a,b,c,0,0⟩:Ln)from(by
     have k:aAo ps ls a b c 0=0:=by unfold aAo;rw[if_neg zQ,if_neg (not_or.2 ⟨fun k=>k pa,fun k=>k pb⟩),aAv hl,if_neg (by show ¬(0:Int)<0;omega),if_neg zQ]
     exact⟨k,by unfold aBa;rw[if_pos k,aAv hl];rfl⟩))
   have hf:(⟨a,b,c,0,0⟩:Ln).Fits:=aLr zQ zQ zQ zQ zQ;have d:=H3.o.blk.ledMap;clear hm2 pa pb hl l1 l2 l4 hk hk64;go_wp2_with fail;refine CHa.o.mono ?_;rintro e w3 ⟨rfl,rfl⟩;go_wp2_with fail;refine CHb.o.mono ?_;rintro e w3 ⟨rfl,rfl⟩;go_wp2_with fail
   refine aCf zW 5 12 [(.pointer (some ⟨G,0,none⟩)),(.pointer (some ⟨G,0,none⟩)),(.pointer (some ⟨G,17,none⟩)),(.map (some M)),(.agg #[.int .u8 a,.int .u8 b,.int .u8 c]),undef]
    (fun w'=>Below w3.heap.size w3 w') zW rfl zW yZ.drew ?_
   intro af haf;simp only[yG,puts,Act.put,yA,yC,yF,yD,yE]at haf;subst haf;refine⟨?_,?_⟩
   ·simp only[yG,List.take_succ_cons,List.take_zero,aA6];refine⟨?z1,?z2,?z3,?_,?_,trivial⟩
    case z1|z2|z3=>
     intro w' hS;refine yO rfl ?_;have HS:=yH hS;clear hS;go_wp2_with fail;all_goals first|exact HS|exact⟨rfl,HS⟩|rfl
    ·intro w' hS;refine yO rfl ?_;have d:=(H3.o.blk.below hS H3.o.blk.lt).ledMap;have HS:=yH hS;clear hS;go_wp2_with fail;all_goals first|exact HS|exact⟨rfl,HS⟩|rfl
    intro w' hS;refine yO rfl ?_;have d0_0:=(KE3.o.below hS KE3.o.lt).cell 0;have d0_1:=(KE3.o.below hS KE3.o.lt).cell 1;have d0_2:=(KE3.o.below hS KE3.o.lt).cell 2;simp at d0_0 d0_1 d0_2;have HS:=yH hS;clear hS;go_wp2_with fail;all_goals first|exact HS|exact⟨rfl,HS⟩|rfl
   simp only[yC,yA];intro w' hS;with_reducible refine yO rfl ?_
   obtain⟨w4,hr,hm4,ht4⟩:=(H3.o.map.below hS H3.o.map.lt).drop HI.o.inv _ (x:=(⟨a,b,c,0,0⟩:Ln)) hf rfl;refine aKl (.tmp 87) (.tmp 88) 152 188 rfl rfl rfl hr ⟨rfl,?_⟩
   have HE:=yH (show LedM w4 G M ps (setL ls (⟨a,b,c,0,0⟩:Ln))∧Keep (·=M) w w4 from by
    have hk4:=ht4.keep;exact⟨⟨((H3.o.blk.below hS H3.o.blk.lt)).keep hk4 (fun e=>H.o.ne e.symm),hm4⟩,(pAD (B3.o.trans (hS.mono B3.o.size))).trans hk4⟩)
   clear hr hm4 ht4 hS;go_wp2_with fail;go_ret;exact⟨zR,wE,HE.o.2⟩
  have EE:=yH (show aAo ps ls a b c n=0∧aBa ps ls a b c n=setL ls (⟨a,b,c,n,0⟩:Ln)from(by
    have k:aAo ps ls a b c n=0:=by unfold aAo;rw[if_neg zQ,if_neg (not_or.2 ⟨fun k=>k pa,fun k=>k pb⟩),aAv hl,if_neg (by show ¬n<0;omega),if_neg zQ]
    exact⟨k,by unfold aBa;rw[if_pos k,aAv hl];rfl⟩))
  have hf:(⟨a,b,c,n,0⟩:Ln).Fits:=aLr zQ zQ zQ zQ zQ;have q1:(n != 0)=true:=by simp;exact l5
  have q3:(k==64)=false:=by simp;intro e;exact l4 ⟨l5,e⟩
  have q5:(n==0)=false:=by simp;exact l5
  have d:=H3.o.blk.ledMap;have l6:=yH l5;clear hm2 pa pb hl l5 l4 hk hk64;go_wp2_with fail;refine CHa.o.mono ?_;rintro e w3 ⟨rfl,rfl⟩;go_wp2_with fail;refine CHb.o.mono ?_;rintro e w3 ⟨rfl,rfl⟩;go_wp2_with fail
  refine aCf zW 9 12 [(.pointer (some ⟨G,0,none⟩)),(.pointer (some ⟨G,0,none⟩)),(.pointer (some ⟨G,17,none⟩)),(.map (some M)),(.agg #[.int .u8 a,.int .u8 b,.int .u8 c]),(.int .i64 n),(.pointer (some ⟨ga,1,none⟩)),(.int .i64 0),(.agg #[.int .i64 n,.int .i64 0]),undef]
   (fun w'=>Below w3.heap.size w3 w') zW rfl zW yZ.drew ?_
  intro af haf;simp only[yG,puts,Act.put,yA,yC,yF,yD,yE]at haf;subst haf;refine⟨?_,?_⟩
  ·simp only[yG,List.take_succ_cons,List.take_zero,aA6];refine⟨?z4,?z5,?z6,?_,?_,?z7,?z9,?z10,?z8,trivial⟩
   case z4|z5|z6|z7|z8=>
    intro w' hS;refine yO rfl ?_;have HS:=yH hS;clear hS;go_wp2_with fail;all_goals first|exact HS|exact⟨rfl,HS⟩|rfl
   case z9|z10=>
    intro w' hS;refine yO rfl ?_;have d0_0:=(KA3.o.below hS KA3.o.lt).cell 0;have d0_1:=(KA3.o.below hS KA3.o.lt).cell 1;simp at d0_0 d0_1;have HS:=yH hS;clear hS;go_wp2_with fail;all_goals first|exact HS|exact⟨rfl,HS⟩|rfl
   ·intro w' hS;refine yO rfl ?_;have d:=(H3.o.blk.below hS H3.o.blk.lt).ledMap;have HS:=yH hS;clear hS;go_wp2_with fail;all_goals first|exact HS|exact⟨rfl,HS⟩|rfl
   intro w' hS;refine yO rfl ?_;have d0_0:=(KE3.o.below hS KE3.o.lt).cell 0;have d0_1:=(KE3.o.below hS KE3.o.lt).cell 1;have d0_2:=(KE3.o.below hS KE3.o.lt).cell 2;simp at d0_0 d0_1 d0_2;have HS:=yH hS;clear hS;go_wp2_with fail;all_goals first|exact HS|exact⟨rfl,HS⟩|rfl
  simp only[yC,yA];intro w' hS;with_reducible refine yO rfl ?_
  obtain⟨w4,hr,hm4,ht4⟩:=(H3.o.map.below hS H3.o.map.lt).store HI.o.inv (x:=(⟨a,b,c,n,0⟩:Ln)) hf l6.out;refine aCm 152 (.tmp 28) (.tmp 29) (.tmp 33) rfl rfl rfl rfl hr ⟨rfl,?_⟩
  have HE:=yH (show LedM w4 G M ps (setL ls (⟨a,b,c,n,0⟩:Ln))∧Keep (·=M) w w4 from by
   have hk4:=ht4.keep;exact⟨⟨((H3.o.blk.below hS H3.o.blk.lt)).keep hk4 (fun e=>H.o.ne e.symm),hm4⟩,(pAD (B3.o.trans (hS.mono B3.o.size))).trans hk4⟩)
  clear hr hm4 ht4 hS;go_wp2_with fail;go_ret;exact⟨zR,wE,HE.o.2⟩
 rw[aAk hl,hs]at HL;obtain⟨hm,rfl,rfl,rfl⟩:=aAq hl;have hd:=(hI.inv.good x hm).db;clear hs h ha hb hc hI hm;go_enter Tryz.func152,Tryz.ntmps152;go_wp2_with fail;have B0:=yH ((Below.refl w.heap.size w).alloc yL (.cells #[.int .u8 x.cr,.int .u8 x.de,.int .u8 x.cu] 188));have KE:=yH (Blk.new w #[.int .u8 x.cr,.int .u8 x.de,.int .u8 x.cu] 188);generalize (w.alloc (.cells #[.int .u8 x.cr,.int .u8 x.de,.int .u8 x.cu] 188))=W at B0 KE ⊢
 refine aA7 zW (fun g:Nat→Nat=>[(.pointer (some ⟨G,0,none⟩)),(.map (some M)),(.agg #[.int .u8 x.cr,.int .u8 x.de,.int .u8 x.cu]),(.tuple #[.agg #[.int .i64 x.li,.int .i64 x.db],.bool true]),(.tuple #[.agg #[.int .i64 x.li,.int .i64 x.db],.bool true]),(.agg #[.int .i64 x.li,.int .i64 x.db]),(.bool true),(.pointer (some ⟨g 7,0,none⟩)),undef,(.bool true)])
  (Lays W [(⟨7,8,(.cells #[.int .i64 0,.int .i64 0] 190),(.cells #[.int .i64 x.li,.int .i64 x.db] 190)⟩:Spec)]) zW (fun _=>0) (Lays.start _ _ _) ?_
 intro AF hAF;simp only[yG,puts,Act.put,yA,yC,yF,yD,yE]at hAF;have hAF2:_=AF:=funext hAF;subst hAF2;clear hAF;refine⟨?_,?_⟩
 ·simp only[yG,aFo];refine⟨?_,?_,?_,?_,?_,?_,?_,?_,?_,?_,trivial⟩
  ·intro g D w' hD hW hC hI;refine⟨g,fun _ _ _=>rfl,?_⟩;with_reducible refine yO rfl ?_
   have HS:=yH (hI.step yZ (k:=0) zP);clear hI hC hW hD;go_wp2_with fail;all_goals first|exact HS|exact⟨rfl,HS⟩|rfl
  ·intro g D w' hD hW hC hI;refine⟨g,fun _ _ _=>rfl,?_⟩;with_reducible refine yO rfl ?_
   have hS:=hI.below;have HI:=yH hI;have HC:=yH (HA.o w' (B0.o.trans (hS.mono B0.o.size)));clear hI hS hC hW hD;go_wp2_with fail;refine HC.o.mono ?_;rintro e w'' ⟨rfl,rfl⟩;exact⟨rfl,HI.o.step yZ zP⟩
  ·intro g D w' hD hW hC hI;refine⟨g,fun _ _ _=>rfl,?_⟩;with_reducible refine yO rfl ?_
   have hS:=hI.below;have d0_0:=(KE.o.below hS KE.o.lt).cell 0;have d0_1:=(KE.o.below hS KE.o.lt).cell 1;have d0_2:=(KE.o.below hS KE.o.lt).cell 2;simp at d0_0 d0_1 d0_2;have HS:=yH (hI.step yZ (k:=2) zP);clear hI hS hC hW hD;go_wp2_with fail;all_goals first|exact HS|exact⟨rfl,HS⟩|rfl
  ·intro g D w' hD hW hC hI;refine⟨g,fun _ _ _=>rfl,?_⟩;with_reducible refine yO rfl ?_
   have hS:=hI.below;have q:=HL.o w' (B0.o.trans (hS.mono B0.o.size));have HS:=yH (hI.step yZ (k:=3) zP);clear hI hS hC hW hD;go_wp2_with fail;all_goals first|exact HS|exact⟨rfl,HS⟩|rfl
  ·intro g D w' hD hW hC hI;refine⟨g,fun _ _ _=>rfl,?_⟩;with_reducible refine yO rfl ?_
   have HS:=yH (hI.step yZ (k:=4) zP);clear hI hC hW hD;go_wp2_with fail;all_goals first|exact HS|exact⟨rfl,HS⟩|rfl
  ·intro g D w' hD hW hC hI;refine⟨g,fun _ _ _=>rfl,?_⟩;with_reducible refine yO rfl ?_
   have HS:=yH (hI.step yZ (k:=5) zP);clear hI hC hW hD;go_wp2_with fail;all_goals first|exact HS|exact⟨rfl,HS⟩|rfl
  ·intro g D w' hD hW hC hI;refine⟨g,fun _ _ _=>rfl,?_⟩;with_reducible refine yO rfl ?_
   have HS:=yH (hI.step yZ (k:=6) zP);clear hI hC hW hD;go_wp2_with fail;all_goals first|exact HS|exact⟨rfl,HS⟩|rfl
  ·intro g D w' hD hW hC hI;have hN:D 8=false:=aBl hC hD 12 8 zW;refine⟨upd g 7 w'.heap.size,aC7 _ (fun g:Nat→Nat=>[(.pointer (some ⟨G,0,none⟩)),(.map (some M)),(.agg #[.int .u8 x.cr,.int .u8 x.de,.int .u8 x.cu]),(.tuple #[.agg #[.int .i64 x.li,.int .i64 x.db],.bool true]),(.tuple #[.agg #[.int .i64 x.li,.int .i64 x.db],.bool true]),(.agg #[.int .i64 x.li,.int .i64 x.db]),(.bool true),(.pointer (some ⟨g 7,0,none⟩)),undef,(.bool true)]) g 7 _ 12 hC hD ?_,?_⟩
   ·intro j hj
    match j,hj with
    | 0,_=>exact .inr rfl
    | 1,_=>exact .inr rfl
    | 2,_=>exact .inr rfl
    | 3,_=>exact .inr rfl
    | 4,_=>exact .inr rfl
    | 5,_=>exact .inr rfl
    | 6,_=>exact .inr rfl
    | 7,_=>exact .inl (.inl rfl)
    | 8,_=>exact .inr rfl
    | 9,_=>exact .inr rfl
    | j+10,_=>exact .inr rfl
   with_reducible refine yO rfl ?_
   have HS:=yH (hI.lay (⟨7,8,(.cells #[.int .i64 0,.int .i64 0] 190),(.cells #[.int .i64 x.li,.int .i64 x.db] 190)⟩:Spec) zV zP (.inr hN) zP (fun s' hs' _=>List.mem_singleton.1 hs') (.cells #[.int .i64 0,.int .i64 0] 190) rfl);clear hI hC hW hD hN;go_wp2_with fail;all_goals first|exact HS|exact⟨rfl,HS⟩|rfl
  ·intro g D w' hD hW hC hI;have hP:D 7=true:=aA1 hC hW (d:=12) zW;obtain⟨hg,hk⟩:=hI.zeroed (⟨7,8,(.cells #[.int .i64 0,.int .i64 0] 190),(.cells #[.int .i64 x.li,.int .i64 x.db] 190)⟩:Spec) zV hP hD;refine⟨g,fun _ _ _=>rfl,?_⟩;with_reducible refine yO rfl ?_
   refine wp_store_row 190 (.tmp 12) (.tmp 23) rfl (g 7) #[.int .i64 x.li,.int .i64 x.db] rfl rfl 190 _ hk zW rfl zK ⟨rfl,?_⟩;exact hI.fill (⟨7,8,(.cells #[.int .i64 0,.int .i64 0] 190),(.cells #[.int .i64 x.li,.int .i64 x.db] 190)⟩:Spec) zV zP (show(8:Nat)≠7 by decide) (fun s' hs' _=>List.mem_singleton.1 hs') hP (aAc _ _) (setRow_heap w' (g 7) _ _ 190 (0,0) hk)
  intro g D w' hD hW hC hI;refine⟨g,fun _ _ _=>rfl,?_⟩;with_reducible refine yO rfl ?_
  have HS:=yH (hI.step yZ (k:=9) zP);clear hI hC hW hD;go_wp2_with fail;all_goals first|exact HS|exact⟨rfl,HS⟩|rfl
 intro g1 D w2 hall hI2;obtain⟨hg1,hk1⟩:=hI2.full (⟨7,8,(.cells #[.int .i64 0,.int .i64 0] 190),(.cells #[.int .i64 x.li,.int .i64 x.db] 190)⟩:Spec) zV (hall 7 zX) (hall 8 zX);have B2:=yH (B0.o.trans (hI2.below.mono B0.o.size));have KE2:=yH (KE.o.below hI2.below KE.o.lt);have KA2:Hid (Blk w2 (g1 7) #[.int .i64 x.li,.int .i64 x.db] 190):=yH hk1;have C2:=yH (HM.o w2 B2.o);have CM:=yH (aSw x.cr x.de x.cu w2);dsimp only;generalize g1 7=ga at *;clear hI2 hall hk1 KE B0 HL hg1 HA HM;have c0:=KE2.o.cell 0;have c1:=KE2.o.cell 1;have c2:=KE2.o.cell 2;simp at c0 c1 c2;go_wp2_with fail;refine C2.o.mono ?_;rintro e w2 ⟨rfl,rfl⟩;go_wp2_with fail;refine CM.o.mono ?_;rintro e w3 ⟨rfl,b3⟩;have B3:=yT B2 b3;have KE3:=yB KE2 b3;have KA3:=yB KA2 b3;have H3:=yH (H.o.below B3.o);clear b3 B2 KE2 KA2 C2 CM c0 c1 c2;have CHa:=yH (aEi H3.o.blk HI.o.bd x.cr);have CHb:=yH (aEi H3.o.blk HI.o.bd x.de);have e0:=KE3.o.cell 0;have e1:=KE3.o.cell 1;have e2:=KE3.o.cell 2;have a1:=KA3.o.cell 1;simp at e0 e1 e2 a1
 by_cases hm1:mayE x.cr x.de x.cu=false
 ·have hm2:¬((1≤x.cr∧x.cr≤16)∧(1≤x.de∧x.de≤16)∧x.cr≠x.de∧1≤x.cu∧x.cu≤8):=xZ
  have EE:=yH (show aAo ps ls x.cr x.de x.cu n=1∧aBa ps ls x.cr x.de x.cu n=ls from(by
    have k:aAo ps ls x.cr x.de x.cu n=1:=yP
    exact⟨k,zC⟩))
  rw[hm1];clear hm1 hm2;go_wp2_with fail;go_ret;exact⟨zR,zJ,pAD B3.o⟩
 have hm1:mayE x.cr x.de x.cu=true:=uN hm1
 have hm2:(1≤x.cr∧x.cr≤16)∧(1≤x.de∧x.de≤16)∧x.cr≠x.de∧1≤x.cu∧x.cu≤8:=xZ
 rw[hm1];clear hm1
 by_cases l1:n<0
 ·have EE:=yH (show aAo ps ls x.cr x.de x.cu n=1∧aBa ps ls x.cr x.de x.cu n=ls from(by
    have k:aAo ps ls x.cr x.de x.cu n=1:=yP
    exact⟨k,zC⟩))
  clear hm2;go_wp2_with fail;go_ret;exact⟨zR,zJ,pAD B3.o⟩
 by_cases l2:1099511627776<n
 ·have EE:=yH (show aAo ps ls x.cr x.de x.cu n=1∧aBa ps ls x.cr x.de x.cu n=ls from(by
    have k:aAo ps ls x.cr x.de x.cu n=1:=yP
    exact⟨k,zC⟩))
  clear hm2;go_wp2_with fail;go_ret;exact⟨zR,zJ,pAD B3.o⟩
 by_cases pa:¬x.cr∈ps
 ·have EE:=yH (show aAo ps ls x.cr x.de x.cu n=7∧aBa ps ls x.cr x.de x.cu n=ls from(by
    have k:aAo ps ls x.cr x.de x.cu n=7:=wC
    exact⟨k,zC⟩))
  rw[decide_eq_false pa]at CHa;clear hm2 pa;go_wp2_with fail;refine CHa.o.mono ?_;rintro e w3 ⟨rfl,rfl⟩;go_wp2_with fail;go_ret;exact⟨zR,zJ,pAD B3.o⟩
 have pa:=Decidable.not_not.1 pa
 by_cases pb:¬x.de∈ps
 ·have EE:=yH (show aAo ps ls x.cr x.de x.cu n=7∧aBa ps ls x.cr x.de x.cu n=ls from(by
    have k:aAo ps ls x.cr x.de x.cu n=7:=wD
    exact⟨k,zC⟩))
  rw[decide_eq_true pa]at CHa;rw[decide_eq_false pb]at CHb;clear hm2 pa pb;go_wp2_with fail;refine CHa.o.mono ?_;rintro e w3 ⟨rfl,rfl⟩;go_wp2_with fail;refine CHb.o.mono ?_;rintro e w3 ⟨rfl,rfl⟩;go_wp2_with fail;go_ret;exact⟨zR,zJ,pAD B3.o⟩
 have pb:=Decidable.not_not.1 pb;rw[decide_eq_true pa]at CHa;rw[decide_eq_true pb]at CHb
 by_cases l3:n<x.db
 ·have EE:=yH (show aAo ps ls x.cr x.de x.cu n=14∧aBa ps ls x.cr x.de x.cu n=ls from(by
    have k:aAo ps ls x.cr x.de x.cu n=14:=by unfold aAo;rw[if_neg zQ,if_neg (not_or.2 ⟨fun k=>k pa,fun k=>k pb⟩),aAk hl,if_pos l3]
    exact⟨k,zC⟩))
  clear hm2 pa pb hl;go_wp2_with fail;refine CHa.o.mono ?_;rintro e w3 ⟨rfl,rfl⟩;go_wp2_with fail;refine CHb.o.mono ?_;rintro e w3 ⟨rfl,rfl⟩;go_wp2_with fail;go_ret;exact⟨zR,zJ,pAD B3.o⟩
 by_cases l5:n=0
 ·subst l5
  have EE:=yH (show aAo ps ls x.cr x.de x.cu 0=0∧aBa ps ls x.cr x.de x.cu 0=setL ls (⟨x.cr,x.de,x.cu,0,x.db⟩:Ln)from(by
    have k:aAo ps ls x.cr x.de x.cu 0=0:=zD
    exact⟨k,by unfold aBa;rw[if_pos k,aAk hl]⟩))
  have hf:(⟨x.cr,x.de,x.cu,0,x.db⟩:Ln).Fits:=aLr zQ zQ zQ zQ zQ;have d:=H3.o.blk.ledMap;clear hm2 pa pb hl l1 l2;go_wp2_with fail;refine CHa.o.mono ?_;rintro e w3 ⟨rfl,rfl⟩;go_wp2_with fail;refine CHb.o.mono ?_;rintro e w3 ⟨rfl,rfl⟩;go_wp2_with fail
  refine aCf zW 5 12 [(.pointer (some ⟨G,0,none⟩)),(.pointer (some ⟨G,0,none⟩)),(.pointer (some ⟨G,17,none⟩)),(.map (some M)),(.agg #[.int .u8 x.cr,.int .u8 x.de,.int .u8 x.cu]),undef]
   (fun w'=>Below w3.heap.size w3 w') zW rfl zW yZ.drew ?_
  intro af haf;simp only[yG,puts,Act.put,yA,yC,yF,yD,yE]at haf;subst haf;refine⟨?_,?_⟩
  ·simp only[yG,List.take_succ_cons,List.take_zero,aA6];refine⟨?z11,?z12,?z13,?_,?_,trivial⟩
   case z11|z12|z13=>
    intro w' hS;refine yO rfl ?_;have HS:=yH hS;clear hS;go_wp2_with fail;all_goals first|exact HS|exact⟨rfl,HS⟩|rfl
   ·intro w' hS;refine yO rfl ?_;have d:=(H3.o.blk.below hS H3.o.blk.lt).ledMap;have HS:=yH hS;clear hS;go_wp2_with fail;all_goals first|exact HS|exact⟨rfl,HS⟩|rfl
   intro w' hS;refine yO rfl ?_;have d0_0:=(KE3.o.below hS KE3.o.lt).cell 0;have d0_1:=(KE3.o.below hS KE3.o.lt).cell 1;have d0_2:=(KE3.o.below hS KE3.o.lt).cell 2;simp at d0_0 d0_1 d0_2;have HS:=yH hS;clear hS;go_wp2_with fail;all_goals first|exact HS|exact⟨rfl,HS⟩|rfl
  simp only[yC,yA];intro w' hS;with_reducible refine yO rfl ?_
  obtain⟨w4,hr,hm4,ht4⟩:=(H3.o.map.below hS H3.o.map.lt).drop HI.o.inv _ (x:=(⟨x.cr,x.de,x.cu,0,x.db⟩:Ln)) hf rfl;refine aKl (.tmp 87) (.tmp 88) 152 188 rfl rfl rfl hr ⟨rfl,?_⟩
  have HE:=yH (show LedM w4 G M ps (setL ls (⟨x.cr,x.de,x.cu,0,x.db⟩:Ln))∧Keep (·=M) w w4 from by
   have hk4:=ht4.keep;exact⟨⟨((H3.o.blk.below hS H3.o.blk.lt)).keep hk4 (fun e=>H.o.ne e.symm),hm4⟩,(pAD (B3.o.trans (hS.mono B3.o.size))).trans hk4⟩)
  clear hr hm4 ht4 hS;go_wp2_with fail;go_ret;exact⟨zR,wE,HE.o.2⟩
 have EE:=yH (show aAo ps ls x.cr x.de x.cu n=0∧aBa ps ls x.cr x.de x.cu n=setL ls (⟨x.cr,x.de,x.cu,n,x.db⟩:Ln)from(by
   have k:aAo ps ls x.cr x.de x.cu n=0:=zD
   exact⟨k,by unfold aBa;rw[if_pos k,aAk hl]⟩))
 have hf:(⟨x.cr,x.de,x.cu,n,x.db⟩:Ln).Fits:=aLr zQ zQ zQ zQ zQ;have q5:(n==0)=false:=by simp;exact l5
 have d:=H3.o.blk.ledMap;have l6:=yH l5;clear hm2 pa pb hl l5;go_wp2_with fail;refine CHa.o.mono ?_;rintro e w3 ⟨rfl,rfl⟩;go_wp2_with fail;refine CHb.o.mono ?_;rintro e w3 ⟨rfl,rfl⟩;go_wp2_with fail
 refine aCf zW 9 12 [(.pointer (some ⟨G,0,none⟩)),(.pointer (some ⟨G,0,none⟩)),(.pointer (some ⟨G,17,none⟩)),(.map (some M)),(.agg #[.int .u8 x.cr,.int .u8 x.de,.int .u8 x.cu]),(.int .i64 n),(.pointer (some ⟨ga,1,none⟩)),(.int .i64 x.db),(.agg #[.int .i64 n,.int .i64 x.db]),undef]
  (fun w'=>Below w3.heap.size w3 w') zW rfl zW yZ.drew ?_
 intro af haf;simp only[yG,puts,Act.put,yA,yC,yF,yD,yE]at haf;subst haf;refine⟨?_,?_⟩
 ·simp only[yG,List.take_succ_cons,List.take_zero,aA6];refine⟨?z14,?z15,?z16,?_,?_,?z17,?z19,?z20,?z18,trivial⟩
  case z14|z15|z16|z17|z18=>
   intro w' hS;refine yO rfl ?_;have HS:=yH hS;clear hS;go_wp2_with fail;all_goals first|exact HS|exact⟨rfl,HS⟩|rfl
  case z19|z20=>
   intro w' hS;refine yO rfl ?_;have d0_0:=(KA3.o.below hS KA3.o.lt).cell 0;have d0_1:=(KA3.o.below hS KA3.o.lt).cell 1;simp at d0_0 d0_1;have HS:=yH hS;clear hS;go_wp2_with fail;all_goals first|exact HS|exact⟨rfl,HS⟩|rfl
  ·intro w' hS;refine yO rfl ?_;have d:=(H3.o.blk.below hS H3.o.blk.lt).ledMap;have HS:=yH hS;clear hS;go_wp2_with fail;all_goals first|exact HS|exact⟨rfl,HS⟩|rfl
  intro w' hS;refine yO rfl ?_;have d0_0:=(KE3.o.below hS KE3.o.lt).cell 0;have d0_1:=(KE3.o.below hS KE3.o.lt).cell 1;have d0_2:=(KE3.o.below hS KE3.o.lt).cell 2;simp at d0_0 d0_1 d0_2;have HS:=yH hS;clear hS;go_wp2_with fail;all_goals first|exact HS|exact⟨rfl,HS⟩|rfl
 simp only[yC,yA];intro w' hS;with_reducible refine yO rfl ?_
 obtain⟨w4,hr,hm4,ht4⟩:=(H3.o.map.below hS H3.o.map.lt).store HI.o.inv (x:=(⟨x.cr,x.de,x.cu,n,x.db⟩:Ln)) hf l6.out;refine aCm 152 (.tmp 28) (.tmp 29) (.tmp 33) rfl rfl rfl rfl hr ⟨rfl,?_⟩
 have HE:=yH (show LedM w4 G M ps (setL ls (⟨x.cr,x.de,x.cu,n,x.db⟩:Ln))∧Keep (·=M) w w4 from by
  have hk4:=ht4.keep;exact⟨⟨((H3.o.blk.below hS H3.o.blk.lt)).keep hk4 (fun e=>H.o.ne e.symm),hm4⟩,(pAD (B3.o.trans (hS.mono B3.o.size))).trans hk4⟩)
 clear hr hm4 ht4 hS;go_wp2_with fail;go_ret;exact⟨zR,wE,HE.o.2⟩
noncomputable def aQn(w:World)(m r:Nat):Nat:=
 match w.heap[m]?,w.heap[r]? with
 | some (.map es _),some (.mapIter _ _ seen _)=>(leftOf es seen).size
 | _,_=>0
theorem aBo.left{w:World}{m r:Nat}{ls done:List Ln}(h:aBo w m r ls done):aQn w m r+done.length=ls.length:=by
 obtain⟨ms,left,⟨es,clock,since,seen,c0,hb,_,_,hr,_,_,_,hl⟩,_,hp⟩:=h;have h1:=hp.length_eq;have h2:=congrArg List.length hl;rw[List.length_append]at h1;simp only[List.length_map,Array.length_toList]at h2;unfold aQn;rw[hb,hr];dsimp only;omega
theorem aDq{w:World}{ops:Array Oper}{rest:List Oper}{o:Oper}{a:Act}{Q:Exit→Act→World→Prop}(hg:o.guard=none)(x:Operand)(hop:o.op=.range 152 x)(m:Nat)(ls:List Ln)
  (hx:a.eval x=.map (some m))(h:aDg w m ls)
  (hK:∀w',aBo w' m w.heap.size ls []→Below w.heap.size w w'→wpList Tryz.prog ops Q rest (a.put o.dst (.pointer (some ⟨w.heap.size,0,none⟩))) w'):wpList Tryz.prog ops Q (o::rest) a w:=by
 refine wpList_plain hg fun K' hK'=>?_
 obtain⟨w',hr,h1,h2⟩:=h.range;unfold Oper.wp;simp[execOp,hop,hx,hr,Result.andThen];exact hK' _ _ (hK w' h1 h2)
theorem aD0{w:World}{ops:Array Oper}{rest:List Oper}{o:Oper}{a:Act}{Q:Exit→Act→World→Prop}(hg:o.guard=none)(it:Operand)(hop:o.op=.next it false)(m r:Nat)(ls done:List Ln)
  (hit:a.eval it=.pointer (some ⟨r,0,none⟩))(h:aBo w m r ls done)
  (hDone:done.Perm ls→wpList Tryz.prog ops Q rest (a.put o.dst (.tuple #[.bool false])) w)
  (hMore:∀x w',x∈ls→aBo w' m r ls (done++[x])→aC4 r w w'→
   (Instr.entry (.pointer (some ⟨r,0,none⟩))).run Tryz.prog w'=.ok (.tuple #[.agg #[.int .u8 x.cr,.int .u8 x.de,.int .u8 x.cu],.agg #[.int .i64 x.li,.int .i64 x.db]]) w'→
   wpList Tryz.prog ops Q rest (a.put o.dst (.tuple #[.bool true,.agg #[.int .u8 x.cr,.int .u8 x.de,.int .u8 x.cu],.agg #[.int .i64 x.li,.int .i64 x.db]])) w'):wpList Tryz.prog ops Q (o::rest) a w:=by
 refine wpList_plain hg fun K' hK'=>?_
 unfold Oper.wp;rcases h.next o.type with⟨hd,hr⟩|⟨x,w',hx,hr,h1,h2,h3⟩
 ·simp[execOp,hop,hit,hr,Result.andThen];exact hK' _ _ (hDone hd)
 simp[execOp,hop,hit,hr,Result.andThen];exact hK' _ _ (hMore x w' hx h1 h2 h3)
theorem sum_app{α:Type}(f:α→Int)(l:List α)(x:α):((l++[x]).map f).sum=(l.map f).sum+f x:=zV
theorem sum_perm{α:Type}(f:α→Int){l m:List α}(h:l.Perm m):(l.map f).sum=(m.map f).sum:=by
 induction h with
 | nil=>rfl
 | cons x _ ih=>simp[ih]
 | swap x y l=>simp;omega
 | trans _ _ ih1 ih2=>exact ih1.trans ih2
theorem sum_part{f:Ln→Int}{ls done:List Ln}(hf:∀x∈ls,-1099511627776≤f x∧f x≤1099511627776)(hs:∀x∈done,x∈ls)(hl:done.length≤64):-70368744177664≤(done.map f).sum∧(done.map f).sum≤70368744177664:=by
 have:=sum_le f 1099511627776 done (fun x hx=>hf x (hs x hx));omega
theorem aC4.below{r B:Nat}{w w':World}(h:aC4 r w w')(hr:B≤r):Below B w w':=⟨h.os,h.tape,h.output,by rw[h.size];exact Nat.le_refl _,fun k hk=>h.block k zQ⟩
theorem ppos_any{w:World}{G M:Nat}{ps:List Int}{ls:List Ln}(h:LedM w G M ps ls)(hI:LInv ps ls)(p c:Int):
  Calls Tryz.prog 160 #[.pointer (some ⟨G,0,none⟩),.int .u8 p,.int .u8 c] w (yR w (.int .i64 (posL ls p c))):=by
 have C1:=yH (aMg h.blk);have HM:=yH h.map;have HI:=yH hI;have hbd:Hid (∀x∈ls,-1099511627776≤aDf p c x∧aDf p c x≤1099511627776):=yH fun x hx=>posOf_bd (hI.inv.good x hx) p c
 clear h hI;go_enter Tryz.func160,Tryz.ntmps160;go_wp2_with fail;refine C1.o.mono ?_;rintro e w ⟨rfl,rfl⟩;go_wp2_with (first|(at_range;refine aDq rfl _ rfl M ls rfl HM.o ?_;intro w0 hr0 hb0)|go_in)
 go_frame
 go_loopw [7] (fun s wr=>∃done,s=.int .i64 (done.map (aDf p c)).sum∧aBo wr M w.heap.size ls done∧Below w.heap.size w wr) (fun _ wr=>aQn wr M w.heap.size)
 case atStart=>exact⟨[],rfl,hr0,hb0⟩
 obtain⟨done,rfl,hR,hB⟩:=hrel;have hlen:=hR.len;have hleft:=hR.left;obtain⟨s0,s1⟩:=sum_part hbd.out hR.sub (Nat.le_trans hlen HI.o.len);have HR:=yH hR;have HB:=yH hB;clear hR hB;go_wp2_with (first|(at_next;refine aD0 rfl _ rfl M w.heap.size ls done rfl HR.o ?_ ?_)|go_in)
 ·intro hd;have hE:=yH (sum_perm (aDf p c) hd);clear hd;go_wp2;go_ret;exact⟨by show Ending.returned (.int .i64 (done.map (aDf p c)).sum)=_;rw[hE.out];rfl,HB.o⟩
 intro x w1 hx hR1 hT hen;have hb1:=HB.o.trans (hT.below yL);have hg:=HI.o.inv.good x hx;have hdb:=hg.db;have hli:=hg.li;have hb2:=((Below.refl w1.heap.size w1).alloc yL (.cells #[.int .u8 x.cr,.int .u8 x.de,.int .u8 x.cu] 188)).alloc zV (.cells #[.int .i64 x.li,.int .i64 x.db] 190);have hR2:=yH (hR1.below hb2);have hB2:=yH (hb1.trans (hb2.mono hb1.size));have hleft2:=hR2.out.left;have hap:=yH (sum_app (aDf p c) done x);have hne:x.cr≠x.de:=hg.ne
 have hs:((x.cu != c)=true∧aDf p c x=0)∨((x.cu != c)=false∧(x.cr==p)=true∧aDf p c x=x.db)∨((x.cu != c)=false∧(x.cr==p)=false∧(x.de==p)=true∧aDf p c x = -x.db)∨((x.cu != c)=false∧(x.cr==p)=false∧(x.de==p)=false∧aDf p c x=0):=by
  unfold aDf
  by_cases h1:x.cu=c <;> by_cases h2:x.cr=p <;> by_cases h3:x.de=p <;> simp[h1,h2,h3]
  exact absurd (h2.trans h3.symm) hne
 rw[List.length_append]at hleft2;generalize (done.map (aDf p c)).sum=S at *;clear hx hR1 hT hb1 hb2 hg hne hlen;rcases hs with⟨q1,q0⟩|⟨q1,q2,q0⟩|⟨q1,q2,q3,q0⟩|⟨q1,q2,q3,q0⟩
 all_goals
  rw[q0]at hap;clear q0;go_wp2;go_roundw
  case rel=>exact⟨done++[x],by first|(rw[hap.out];done)|(rw[hap.out];go_num),hR2.out,hB2.out⟩
  simp only[List.length_singleton]at hleft2;omega
theorem ptot_any{w:World}{G M:Nat}{ps:List Int}{ls:List Ln}(h:LedM w G M ps ls)(hI:LInv ps ls)(c:Int):
  Calls Tryz.prog 161 #[.pointer (some ⟨G,0,none⟩),.int .u8 c] w (yR w (.int .i64 (totL ls c))):=by
 have C1:=yH (aMg h.blk);have HM:=yH h.map;have HI:=yH hI;have hbd:Hid (∀x∈ls,-1099511627776≤aGv c x∧aGv c x≤1099511627776):=yH fun x hx=>totOf_bd (hI.inv.good x hx) c
 clear h hI;go_enter Tryz.func161,Tryz.ntmps161;go_wp2_with fail;refine C1.o.mono ?_;rintro e w ⟨rfl,rfl⟩;go_wp2_with (first|(at_range;refine aDq rfl _ rfl M ls rfl HM.o ?_;intro w0 hr0 hb0)|go_in)
 go_frame
 go_loopw [5] (fun s wr=>∃done,s=.int .i64 (done.map (aGv c)).sum∧aBo wr M w.heap.size ls done∧Below w.heap.size w wr) (fun _ wr=>aQn wr M w.heap.size)
 case atStart=>exact⟨[],rfl,hr0,hb0⟩
 obtain⟨done,rfl,hR,hB⟩:=hrel;have hlen:=hR.len;have hleft:=hR.left;obtain⟨s0,s1⟩:=sum_part hbd.out hR.sub (Nat.le_trans hlen HI.o.len);have HR:=yH hR;have HB:=yH hB;clear hR hB;go_wp2_with (first|(at_next;refine aD0 rfl _ rfl M w.heap.size ls done rfl HR.o ?_ ?_)|go_in)
 ·intro hd;have hE:=yH (sum_perm (aGv c) hd);clear hd;go_wp2;go_ret;exact⟨by show Ending.returned (.int .i64 (done.map (aGv c)).sum)=_;rw[hE.out];rfl,HB.o⟩
 intro x w1 hx hR1 hT hen;have hb1:=HB.o.trans (hT.below yL);have hg:=HI.o.inv.good x hx;have hdb:=hg.db;have hli:=hg.li;have hb2:=((Below.refl w1.heap.size w1).alloc yL (.cells #[.int .u8 x.cr,.int .u8 x.de,.int .u8 x.cu] 188)).alloc zV (.cells #[.int .i64 x.li,.int .i64 x.db] 190);have hR2:=yH (hR1.below hb2);have hB2:=yH (hb1.trans (hb2.mono hb1.size));have hleft2:=hR2.out.left;have hap:=yH (sum_app (aGv c) done x)
 have hs:((x.cu==c)=true∧aGv c x=x.db)∨((x.cu==c)=false∧aGv c x=0):=by
  unfold aGv
  by_cases h1:x.cu=c <;> simp[h1]
 rw[List.length_append]at hleft2;generalize (done.map (aGv c)).sum=S at *;clear hx hR1 hT hb1 hb2 hg hlen;rcases hs with⟨q1,q0⟩|⟨q1,q0⟩
 all_goals
  rw[q0]at hap;clear q0;go_wp2;go_roundw
  case rel=>exact⟨done++[x],by first|(rw[hap.out];done)|(rw[hap.out];go_num),hR2.out,hB2.out⟩
  simp only[List.length_singleton]at hleft2;omega
end Go.Proofs.YtngnfdnfpiiclaaGreat
