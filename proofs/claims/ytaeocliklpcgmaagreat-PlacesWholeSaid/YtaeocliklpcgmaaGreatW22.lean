/- Pieces of one proof. -/
import Derived.Test.YtaeocliklpcgmaaGreatW21
import Derived.Deep.MidRow
set_option linter.all false
set_option maxHeartbeats 64000000
set_option maxRecDepth 100000
namespace Go.Proofs.YtaeocliklpcgmaaGreat
open Go.RowKit Go.Shelf Go.Sort Go.Lib
def OrdI(W:World)(p q:Int)(g:Nat)(D:Nat→Bool)(w:World):Prop:=aAo W.heap.size W w∧(D 10=true→W.heap.size≤g∧Blk w g #[.int .i64 p,.int .i64 q] 3)
theorem OrdI.step{W w w':World}{p q:Int}{g:Nat}{D:Nat→Bool}{k:Nat}(h:OrdI W p q g D w)(hb:aAo w.heap.size w w')(hk:k≠10):OrdI W p q g (ins k D) w':=by
 have e:¬10=k:=fun e=>hk e.symm
 refine⟨h.1.trans (hb.mono h.1.size),fun d=>?_⟩;simp[ins,e]at d;exact⟨(h.2 d).1,(h.2 d).2.below hb.toBelow (h.2 d).2.lt⟩
theorem porder_any(x y:Of)(w:World)(hx:x.Fits)(hy:y.Fits):Calls Tryz.prog 79 #[.agg #[.int .u64 x.se,.int .u8 x.ow,.int .u8 x.sl,.int .u8 x.bu,.int .i64 x.lf,.int .i64 x.nu,.int .i64 x.de],.agg #[.int .u64 y.se,.int .u8 y.ow,.int .u8 y.sl,.int .u8 y.bu,.int .i64 y.lf,.int .i64 y.nu,.int .i64 y.de]] w fun e w'=>e=.returned (.int .i64 (ordO x y))∧aAo w.heap.size w w':=by
 unfold ordO;have c1:=yH (fun w=>aLn x.nu x.de y.nu y.de w hx.nu hx.de hy.nu hy.de);have c2:=yH (fun w=>aGh x.se y.se w);clear hx hy;generalize cmpR x.nu x.de y.nu y.de=p at *;generalize cmpI x.se y.se=q at *;go_enter Tryz.func79,Tryz.ntmps79;go_wp2_with fail;have KX:=yH ((pAA w #[.int .u64 x.se,.int .u8 x.ow,.int .u8 x.sl,.int .u8 x.bu,.int .i64 x.lf,.int .i64 x.nu,.int .i64 x.de] 129).alloc (.cells #[.int .u64 y.se,.int .u8 y.ow,.int .u8 y.sl,.int .u8 y.bu,.int .i64 y.lf,.int .i64 y.nu,.int .i64 y.de] 129));have KY:=yH (pAC (w.alloc (.cells #[.int .u64 x.se,.int .u8 x.ow,.int .u8 x.sl,.int .u8 x.bu,.int .i64 x.lf,.int .i64 x.nu,.int .i64 x.de] 129)) #[.int .u64 y.se,.int .u8 y.ow,.int .u8 y.sl,.int .u8 y.bu,.int .i64 y.lf,.int .i64 y.nu,.int .i64 y.de] 129 (g:=w.heap.size+1) (by simp));have B0:=yH (((aAo.refl w.heap.size w).alloc yL (.cells #[.int .u64 x.se,.int .u8 x.ow,.int .u8 x.sl,.int .u8 x.bu,.int .i64 x.lf,.int .i64 x.nu,.int .i64 x.de] 129)).alloc (by simp) (.cells #[.int .u64 y.se,.int .u8 y.ow,.int .u8 y.sl,.int .u8 y.bu,.int .i64 y.lf,.int .i64 y.nu,.int .i64 y.de] 129));generalize ((w.alloc (.cells #[.int .u64 x.se,.int .u8 x.ow,.int .u8 x.sl,.int .u8 x.bu,.int .i64 x.lf,.int .i64 x.nu,.int .i64 x.de] 129)).alloc (.cells #[.int .u64 y.se,.int .u8 y.ow,.int .u8 y.sl,.int .u8 y.bu,.int .i64 y.lf,.int .i64 y.nu,.int .i64 y.de] 129))=W at KX KY B0 ⊢
 refine aA3 (by kernel_rfl) (fun g:Nat=>[(.pointer (some ⟨w.heap.size,5,none⟩)),(.agg #[.int .i64 x.nu,.int .i64 x.de]),(.pointer (some ⟨w.heap.size+1,5,none⟩)),(.agg #[.int .i64 y.nu,.int .i64 y.de]),(.int .i64 p),(.pointer (some ⟨w.heap.size,0,none⟩)),(.int .u64 x.se),(.pointer (some ⟨w.heap.size+1,0,none⟩)),(.int .u64 y.se),(.int .i64 q),(.slice (some ⟨g,0,none⟩) 2 2),(.int .i64 (orI p q)),(.int .i64 (orI p q))])
  (OrdI W p q) (by kernel_rfl) 0 ⟨(aAo.refl _ _).drew,by simp⟩ ?_
 intro AF hAF;simp only[yG,puts,Act.put,yA,yC,yF,yD,yE]at hAF;have hAF2:_=AF:=funext hAF;subst hAF2;clear hAF;refine⟨?_,?_⟩
 ·simp only[yG,aE1];refine⟨?_,?_,?_,?_,?_,?_,?_,?_,?_,?_,?_,?_,?_,trivial⟩
  ·intro g D w' hD hW hC hI;refine⟨g,fun _ _ _=>rfl,?_⟩;with_reducible refine yO rfl ?_
   have HS:=yH (hI.step (aAo.refl _ _) (k:=0) (by decide));have hB:=hI.1.toBelow;clear hI hC hW hD hB;go_wp2_with fail;all_goals first|exact HS|exact⟨rfl,HS⟩|rfl
  ·intro g D w' hD hW hC hI;refine⟨g,fun _ _ _=>rfl,?_⟩;with_reducible refine yO rfl ?_
   have HS:=yH (hI.step (aAo.refl _ _) (k:=1) (by decide));have hB:=hI.1.toBelow;have kk:=KX.out.below hB KX.out.lt;have hl:=kk.lt;have d0:=kk.cell 0;have d5:=kk.cell 5;have d6:=kk.cell 6;simp at d0 d5 d6;clear kk;clear hI hC hW hD hB;go_wp2_with fail;all_goals first|exact HS|exact⟨rfl,HS⟩|rfl
  ·intro g D w' hD hW hC hI;refine⟨g,fun _ _ _=>rfl,?_⟩;with_reducible refine yO rfl ?_
   have HS:=yH (hI.step (aAo.refl _ _) (k:=2) (by decide));have hB:=hI.1.toBelow;clear hI hC hW hD hB;go_wp2_with fail;all_goals first|exact HS|exact⟨rfl,HS⟩|rfl
  ·intro g D w' hD hW hC hI;refine⟨g,fun _ _ _=>rfl,?_⟩;with_reducible refine yO rfl ?_
   have HS:=yH (hI.step (aAo.refl _ _) (k:=3) (by decide));have hB:=hI.1.toBelow;have kk:=KY.out.below hB KY.out.lt;have hl:=kk.lt;have d0:=kk.cell 0;have d5:=kk.cell 5;have d6:=kk.cell 6;simp at d0 d5 d6;clear kk;clear hI hC hW hD hB;go_wp2_with fail;all_goals first|exact HS|exact⟨rfl,HS⟩|rfl
  ·intro g D w' hD hW hC hI;refine⟨g,fun _ _ _=>rfl,?_⟩;with_reducible refine yO rfl ?_
   have HI:=yH hI;clear hI hC hW hD;go_wp2_with fail;refine(c1.out w').mono ?_;rintro e w'' ⟨rfl,hb⟩;exact⟨rfl,HI.out.step hb (by decide)⟩
  ·intro g D w' hD hW hC hI;refine⟨g,fun _ _ _=>rfl,?_⟩;with_reducible refine yO rfl ?_
   have HS:=yH (hI.step (aAo.refl _ _) (k:=5) (by decide));have hB:=hI.1.toBelow;clear hI hC hW hD hB;go_wp2_with fail;all_goals first|exact HS|exact⟨rfl,HS⟩|rfl
  ·intro g D w' hD hW hC hI;refine⟨g,fun _ _ _=>rfl,?_⟩;with_reducible refine yO rfl ?_
   have HS:=yH (hI.step (aAo.refl _ _) (k:=6) (by decide));have hB:=hI.1.toBelow;have kk:=KX.out.below hB KX.out.lt;have hl:=kk.lt;have d0:=kk.cell 0;have d5:=kk.cell 5;have d6:=kk.cell 6;simp at d0 d5 d6;clear kk;clear hI hC hW hD hB;go_wp2_with fail;all_goals first|exact HS|exact⟨rfl,HS⟩|rfl
  ·intro g D w' hD hW hC hI;refine⟨g,fun _ _ _=>rfl,?_⟩;with_reducible refine yO rfl ?_
   have HS:=yH (hI.step (aAo.refl _ _) (k:=7) (by decide));have hB:=hI.1.toBelow;clear hI hC hW hD hB;go_wp2_with fail;all_goals first|exact HS|exact⟨rfl,HS⟩|rfl
  ·intro g D w' hD hW hC hI;refine⟨g,fun _ _ _=>rfl,?_⟩;with_reducible refine yO rfl ?_
   have HS:=yH (hI.step (aAo.refl _ _) (k:=8) (by decide));have hB:=hI.1.toBelow;have kk:=KY.out.below hB KY.out.lt;have hl:=kk.lt;have d0:=kk.cell 0;have d5:=kk.cell 5;have d6:=kk.cell 6;simp at d0 d5 d6;clear kk;clear hI hC hW hD hB;go_wp2_with fail;all_goals first|exact HS|exact⟨rfl,HS⟩|rfl
  ·intro g D w' hD hW hC hI;refine⟨g,fun _ _ _=>rfl,?_⟩;with_reducible refine yO rfl ?_
   have HI:=yH hI;clear hI hC hW hD;go_wp2_with fail;refine(c2.out w').mono ?_;rintro e w'' ⟨rfl,rfl⟩;exact⟨rfl,HI.out.step (aAo.refl _ _) (by decide)⟩
  ·intro g D w' hD hW hC hI;have hN:D 11=false:=aAk hC hD 11 (by kernel_rfl);have hN2:D 12=false:=aAk hC hD 12 (by kernel_rfl);refine⟨w'.heap.size,?_,?_⟩
   ·intro j hj hDj
    match j,hj,hDj with
    | 0,_,_=>rfl
    | 1,_,_=>rfl
    | 2,_,_=>rfl
    | 3,_,_=>rfl
    | 4,_,_=>rfl
    | 5,_,_=>rfl
    | 6,_,_=>rfl
    | 7,_,_=>rfl
    | 8,_,_=>rfl
    | 9,_,_=>rfl
    | 10,_,h=>simp_all
    | 11,_,h=>simp_all
    | 12,_,h=>simp_all
    | j+13,_,_=>rfl
   with_reducible refine yO rfl ?_
   have HS:Hid (OrdI W p q w'.heap.size (ins 10 D) (w'.alloc (.cells #[.int .i64 p,.int .i64 q] 3))):=yH ⟨hI.1.alloc hI.1.size _,fun _=>⟨hI.1.size,pAA _ _ _⟩⟩;clear hI hC hW hD hN hN2;go_wp2_with fail;all_goals first|exact HS|exact⟨rfl,HS⟩|rfl
  ·intro g D w' hD hW hC hI;refine⟨g,fun _ _ _=>rfl,?_⟩;with_reducible refine yO rfl ?_
   have hP:D 10=true:=aA1 hC hW (by kernel_rfl);have KB:=(hI.2 hP).2;have HO:=yH (or_two g 2 p q w' KB.lt (KB.cell 0) (KB.cell 1));have HI:=yH hI;clear hI hC hW hD KB hP;go_wp2_with fail;refine HO.out.mono ?_;rintro e w'' ⟨rfl,rfl⟩;exact⟨rfl,HI.out.step (aAo.refl _ _) (by decide)⟩
  intro g D w' hD hW hC hI;refine⟨g,fun _ _ _=>rfl,?_⟩;with_reducible refine yO rfl ?_
  have HS:=yH (hI.step (aAo.refl _ _) (k:=12) (by decide));have hB:=hI.1.toBelow;clear hI hC hW hD hB;go_wp2_with fail;all_goals first|exact HS|exact⟨rfl,HS⟩|rfl
 intro g D w2 hall hI;have HE:=yH (B0.out.trans (hI.1.mono B0.out.size));clear hI hall;dsimp only;go_wp2_with fail;go_ret;exact⟨rfl,HE.out⟩
def aHm:={ x:Of // x.may∧0≤x.se∧x.se≤18446744073709551615 }
instance:Inhabited aHm:=⟨⟨⟨1,1,1,2,1,1,1⟩,by decide⟩⟩
def pAN(x:aHm):List Value:=x.1.vals
def ordG(x y:aHm):Int:=ordO x.1 y.1
theorem ordG_lt(x y:aHm):ltOf ordG x y=true↔ltO x.1 y.1:=by unfold ltOf ordG;rw[decide_eq_true_eq];exact ordO_lt x.2.1 y.2.1
theorem aLo(x y:aHm):ltOf ordG x y=false↔¬ltO x.1 y.1:=by rw[←ordG_lt];simp
theorem swoO:SWO (ltOf ordG) where
 irrefl x:=by rw[aLo];exact ltO_irrefl x.1
 trans x y z h1 h2:=by rw[ordG_lt]at *;exact aMv x.2.1 y.2.1 z.2.1 h1 h2
 ntrans x y z h1 h2:=by rw[aLo]at *;exact ltO_ntrans x.2.1 y.2.1 z.2.1 h1 h2
theorem aM4(ls:List aHm){j:Nat}(h:j<ls.length*7):(flatK pAN 7 ls.toArray)[j]! = (aAa (ls.map (·.1)))[j]'(by rw[aAp,List.length_map];exact h):=by
 rw[get_flatK _ _ _ j (by simpa using h)];have h1:j/7<ls.length:=by omega
 have h2:j%7<7:=Nat.mod_lt _ (by omega);have h3:=aAg (ls.map (·.1)) (j/7) (j%7) h2 (by simpa using h1);rw[show j/7*7+j%7=j by omega]at h3;rw[List.getElem?_eq_getElem (by rw[aAp,List.length_map];exact h)]at h3;have h4:(ls.toArray)[j/7]! = ls[j/7]:=by simp[h1]
 rw[h4,List.getElem!_eq_getElem?_getD];unfold pAN;rw[List.getElem_map]at h3;rw[←h3];rfl
theorem holds_offs{w:World}{g:Nat}{cur:Array Value}{e:TypeId}{ls:List aHm}(hb:w.heap[g]? = some (.cells cur e (0,0)))(ht:cur.toList.take (ls.length*7)=aAa (ls.map (·.1))):HoldsK pAN 7 w g 0 ls.toArray:=by
 intro j hj;have hj':j<ls.length*7:=by simpa using hj
 refine⟨?_,by simp[World.frozen?,hb]⟩;rw[aM4 ls hj'];have h1:(cur.toList.take (ls.length*7))[j]? = (aAa (ls.map (·.1)))[j]? := by rw[ht]
 rw[List.getElem?_take_of_lt hj']at h1;simp only[World.cell?,hb,Nat.zero_add];simp only[Option.isSome_none,Bool.false_eq_true,if_false];rw[←Array.getElem?_toList,h1,List.getElem?_eq_getElem (by rw[aAp,List.length_map];exact hj')];rfl
theorem heap_offs{w:World}{g n:Nat}{os:Array Obj}{cur:Array Value}{e:TypeId}(d:Array aHm)(hb:w.heap[g]? = some (.cells cur e (0,0))):
  (sortWorldK pAN 7 w g 0 n d os).heap[g]? = some (.cells (putCells id 0 (flatK pAN 7 d) cur) e (0,0)):=by
 have hg:g<w.heap.size:=(Array.getElem?_eq_some_iff.1 hb).1;unfold sortWorldK putRowK;rw[heap_grow_old _ _ (by simpa using hg)];simp[putRow,mapBlock,Go.Sort.ahead,Array.getElem?_modify,hb,onCells]
theorem keep_offs{w:World}{g n:Nat}{os:Array Obj}(d:Array aHm):Keep (·=g) w (sortWorldK pAN 7 w g 0 n d os):=by
 refine⟨rfl,rfl,rfl,by simp[sortWorldK,putRowK],fun k hk hne=>?_⟩;unfold sortWorldK putRowK;rw[heap_grow_old _ _ (by simpa using hk)];have:g≠k:=fun e=>hne e.symm
 simp[putRow,mapBlock,Go.Sort.ahead,Array.getElem?_modify,this]
theorem take_offs(cur:Array Value)(ls:List aHm)(h:ls.length*7≤cur.size):(putCells id 0 (flatK pAN 7 ls.toArray) cur).toList.take (ls.length*7)=aAa (ls.map (·.1)):=by
 apply List.ext_getElem?;intro j
 by_cases hj:j<ls.length*7
 ·have hf:=aM4 ls hj;rw[List.getElem?_take_of_lt hj,Array.getElem?_toList,List.getElem?_eq_getElem (by rw[aAp,List.length_map];exact hj),←hf];simp[putCells,hj,show j<cur.size by omega]
 rw[List.getElem?_take_eq_none (by omega),List.getElem?_eq_none (by rw[aAp,List.length_map];omega)]
theorem aOt{f m:List Of}{d:Array aHm}{ls:List aHm}(hf:ls.map (·.1)=f)(hm:m.Perm f)(hms:m.Pairwise ltO)(hne:f.Pairwise fun x y=>x.se≠y.se)
  (h1:PermIn 0 ls.toArray.size ls.toArray d)(h2:SortedIn (ltOf ordG) 0 ls.toArray.size d):d.toList.map (·.1)=m∧d.size=ls.length:=by
 obtain⟨hs,_,hperm⟩:=h1
 have hpd:d.toList.Perm ls:=by
  have e1:d.extract 0 ls.toArray.size=d:=by rw[←hs,Array.extract_size]
  rw[e1,Array.extract_size]at hperm;simpa using hperm
 have hpm:(d.toList.map (·.1)).Perm f:=by rw[←hf];exact hpd.map _
 have hse:(d.toList.map (·.1)).Pairwise fun x y=>x.se≠y.se:=(hpm.symm.pairwise_iff (fun{a b} (h:a.se≠b.se)=>h.symm)).1 hne
 have hso:(d.toList.map (·.1)).Pairwise ltO:=by
  rw[List.pairwise_iff_getElem]at hse ⊢;intro i j hi hj hij;have hi':i<d.size:=by simpa using hi
  have hj':j<d.size:=by simpa using hj
  have h3:=h2 i j (Nat.zero_le _) hij (by rw[←hs];exact hj');rw[getElem!_pos d i hi',getElem!_pos d j hj',aLo]at h3;have h4:=hse i j hi hj hij;simp only[List.getElem_map,Array.getElem_toList]at h4 ⊢;exact ltO_total (fun e=>h4 e.symm) h3
 refine⟨List.Perm.eq_of_pairwise (fun a b _ _ h1 h2=>(ltO_asymm h1 h2).elim) hso hms (hpm.trans hm.symm),by simpa using hs⟩
theorem aM5:∀{f:List Of},(∀x∈f,x.may∧0≤x.se∧x.se≤18446744073709551615)→∃ls:List aHm,ls.map (·.1)=f
 | [],_=>⟨[],rfl⟩
 | x::r,h=>by
  obtain⟨ls,hl⟩:=aM5 (f:=r) (fun y hy=>h y (by simp[hy]));exact⟨⟨x,h x (by simp)⟩::ls,congrArg (List.cons x) hl⟩
theorem sortO_any{w:World}{base:Nat}{v:Value}{f m:List Of}(hg:∀x∈f,x.may∧0≤x.se∧x.se≤18446744073709551615)(hm:m.Perm f)(hms:m.Pairwise ltO)(hne:f.Pairwise fun x y=>x.se≠y.se)(hl:f.length≤1000)(h:w.ownsRow base 129 7 v f.length (aAa f)):
  Calls Tryz.prog 78 #[v,.func (.func 79) #[] #[]] w fun e w'=>e=.returned (.tuple #[])∧w'.ownsRow base 129 7 v m.length (aAa m)∧Keep (fun b=>v.ownBlock=some b) w w':=by
 have hlen:=hm.length_eq;rcases h.2 with⟨rfl,h0⟩|⟨g,cap,cur,rfl,hbase,hb,h1,h2,h3,h4⟩
 ·rw[h0]at hlen;have:m=[]:=List.eq_nil_of_length_eq_zero hlen;subst this;refine(AnyF.slices_SortFunc_none { sortO with } none 0 (.func (.func 79) #[] #[]) w).mono ?_;rintro e w' ⟨rfl,rfl⟩;exact⟨rfl,World.ownsRow_nil _ _ _ _,Keep.refl _ _⟩
 have hgl:g<w.heap.size:=(Array.getElem?_eq_some_iff.1 hb).1;obtain⟨ls,hls⟩:=aM5 hg;have hll:ls.length=f.length:=by rw[←hls,List.length_map]
 have eg:∀args w,(callFunc 79 args).run Tryz.prog w=.ok (.enter 79 args) w:=enters_of Tryz.func79 (by kernel_rfl) rfl;have hcmp:CmpLays Tryz.prog 79 #[] pAN 7 ordG g 0 ls.toArray.size w:=fun m os dk _ x y=>(porder_any x.1 y.1 _ (x.2.1.fits x.2.2) (y.2.1.fits y.2.2)).mono fun e w' ⟨he,hb⟩=>⟨he,hb.grown⟩
 have hc:=AnyQ.slices_SortFunc (P:=Tryz.prog) sortO 7 Tryz.isAgg129 Tryz.sizeOf129 pAN (fun _=>rfl) (fun x u hu=>by simp[pAN,Of.vals]at hu;rcases hu with rfl|rfl|rfl|rfl|rfl|rfl|rfl <;> rfl) ordG swoO 79 #[] g 0 cap ls.toArray w eg hcmp (holds_offs hb (by rw[hll,hls];exact h4)) hgl (by simp;omega);have hsz:ls.toArray.size=f.length:=by simp[hll]
 rw[hsz]at hc;refine Calls.mono hc ?_;rintro e w' ⟨rfl,d,n,os,hp1,hs1,rfl⟩;obtain⟨hd,hds⟩:=aOt hls hm hms hne (by rw[hsz];exact hp1) (by rw[hsz];exact hs1)
 have hcells:(putCells id 0 (flatK pAN 7 d) cur).toList.take (f.length*7)=aAa m:=by
  have:=take_offs cur d.toList (by rw[Array.length_toList,hds,hll,h3];omega);rw[hd]at this;simpa [hds,hll]using this
 refine⟨rfl,⟨aAp m,.inr ⟨g,cap,_,by rw[hlen],hbase,heap_offs _ hb,by omega,h2,by simp[putCells,h3],by rw[hlen];exact hcells⟩⟩,(keep_offs _).mono fun k _ hk=>by rw[hk];rfl⟩
end Go.Proofs.YtaeocliklpcgmaaGreat
namespace Go.Proofs.YtaeocliklpcgmaaGreat
open Go.RowKit
theorem aM6(x:Of){c1 c2:Nat}{s b:Int}{w:World}(h1:Blk w c1 #[.int .u8 s] 44)(h2:Blk w c2 #[.int .u8 b] 44):
  Calls Tryz.prog 77 #[.agg #[.int .u64 x.se,.int .u8 x.ow,.int .u8 x.sl,.int .u8 x.bu,.int .i64 x.lf,.int .i64 x.nu,.int .i64 x.de],.pointer (some ⟨c1,0,none⟩),.pointer (some ⟨c2,0,none⟩)] w (yR w (.bool (!aAx s b x))):=by
 have B0:=yH ((Below.refl w.heap.size w).alloc yL (.cells #[.int .u64 x.se,.int .u8 x.ow,.int .u8 x.sl,.int .u8 x.bu,.int .i64 x.lf,.int .i64 x.nu,.int .i64 x.de] 129));have k1:=h1.alloc (.cells #[.int .u64 x.se,.int .u8 x.ow,.int .u8 x.sl,.int .u8 x.bu,.int .i64 x.lf,.int .i64 x.nu,.int .i64 x.de] 129);have k2:=h2.alloc (.cells #[.int .u64 x.se,.int .u8 x.ow,.int .u8 x.sl,.int .u8 x.bu,.int .i64 x.lf,.int .i64 x.nu,.int .i64 x.de] 129);have d0:=k1.cell 0;have e0:=k2.cell 0;simp at d0 e0;have hl:=k1.lt;have hl2:=k2.lt;clear k1 k2 h1 h2;unfold aAx
 by_cases q1:x.sl=s
 ·have p1:(x.sl==s)=true:=by simpa using q1
  have p2:(x.sl != s)=false:=by simpa using q1
  by_cases q2:x.bu=b
  ·have p3:(x.bu==b)=true:=by simpa using q2
   have p4:(x.bu != b)=false:=by simpa using q2
   rw[decide_eq_true (And.intro q1 q2)];clear q1 q2;go_enter Tryz.func77,Tryz.ntmps77;go_wp2_with fail;go_ret;exact⟨rfl,B0.out⟩
  have p3:(x.bu==b)=false:=by simpa using q2
  have p4:(x.bu != b)=true:=by simpa using q2
  rw[decide_eq_false (fun k=>q2 k.2)];clear q1 q2;go_enter Tryz.func77,Tryz.ntmps77;go_wp2_with fail;go_ret;exact⟨rfl,B0.out⟩
 have p1:(x.sl==s)=false:=by simpa using q1
 have p2:(x.sl != s)=true:=by simpa using q1
 rw[decide_eq_false (fun k=>q1 k.1)];clear q1;go_enter Tryz.func77,Tryz.ntmps77;go_wp2_with fail;go_ret;exact⟨rfl,B0.out⟩
def aC8(l:List Of)(s b:Int):Nat:=l.findIdx fun x=>!aAx s b x
theorem posB_le(l:List Of)(s b:Int):aC8 l s b≤l.length:=List.findIdx_le_length
theorem posB_at{l:List Of}{s b:Int}{k:Nat}(hk:k<l.length)(hn:∀x∈l.take k,aAx s b x=true)(hx:aAx s b l[k]=false):aC8 l s b=k:=by
 unfold aC8;rw[List.findIdx_eq hk];refine⟨by simp[hx],fun j hj=>?_⟩;have:=hn l[j] (by rw[List.mem_take_iff_getElem];exact⟨j,by omega,rfl⟩);simp[this]
theorem posB_none{l:List Of}{s b:Int}(hn:∀x∈l,aAx s b x=true):aC8 l s b=l.length:=by
 unfold aC8;rw[List.findIdx_eq_length];intro x hx;simp[hn x hx]
theorem aM7{l:List Of}{s b:Int}{j:Nat}(hj:j<aC8 l s b):aAx s b (l[j]'(yM hj (posB_le l s b)))=true:=by
 have:=List.not_of_lt_findIdx (p:=fun x=>!aAx s b x) (xs:=l) (i:=j) hj;simpa using this
theorem posB_hit{l:List Of}{s b:Int}(h:aC8 l s b<l.length):aAx s b l[aC8 l s b]=false:=by
 have:=List.findIdx_getElem (p:=fun x=>!aAx s b x) (xs:=l) (w:=h);rw[Bool.not_eq_true']at this;exact this
def idxB(l:List Of)(s b:Int):Value:=if aC8 l s b<l.length then .int .i64 (aC8 l s b:Nat)else .int .i64 (-1)
def IdxBAt(w:World)(l:List Of)(s b:Int)(i:Value)(wr:World):Prop:=
 ∃k:Nat,k≤l.length∧i=.int .i64 k∧(∀x∈l.take k,aAx s b x=true)∧Below w.heap.size w wr
theorem pidxB_any{w:World}{base c1 c2:Nat}{l:List Of}{s b:Int}{v:Value}(h:w.ownsRow base 129 7 v l.length (aAa l))(h1:Blk w c1 #[.int .u8 s] 44)(h2:Blk w c2 #[.int .u8 b] 44):
  Calls Tryz.prog 124 #[v,.func (.func 77) #[] #[.pointer (some ⟨c1,0,none⟩),.pointer (some ⟨c2,0,none⟩)]] w (yR w (idxB l s b)):=by
 obtain⟨ao,cap,rfl,hc1,hc2,hc3,hc4⟩:=aAf h;have HC:=yH hc4;have K1:=yH h1;have K2:=yH h2;unfold maxLen at hc2;clear hc3 hc4 h h1 h2;go_enter Tryz.func124,Tryz.ntmps124;go_wp2_with fail
 go_loopw [5,8] (fun _ i wr=>IdxBAt w l s b i wr) (fun _ i _=>l.length - (intOf i).toNat)
 case atStart=>exact⟨0,Nat.zero_le _,rfl,by simp,yZ⟩
 obtain⟨k,hk,rfl,hn,hb⟩:=hrel
 by_cases hkl:k<l.length
 ·obtain⟨g,rfl,hb1,hb2,hcell,_⟩:=HC.out (by omega);obtain⟨e0,e1,e2,e3,e4,e5,e6⟩:=aCp (w:=wr) (fun j hj=>by rw[hb.cell (p:=⟨g,j,none⟩) hb2];exact hcell j hj) hkl;have FA:=yH (fun hx=>posB_at (s:=s) (b:=b) hkl hn hx);have TN:=yH (fun hx=>aGz (q:=fun x=>aAx s b x=true) hkl hn hx);have C1:=yH (aM6 l[k] (K1.out.below hb K1.out.lt) (K2.out.below hb K2.out.lt));have HB:=yH hb;clear hcell hn hb;generalize l[k]=x at *
  cases hx:aAx s b x with
  | false=>
   have E:=yH (FA.out hx);rw[hx]at C1;clear FA TN hx;go_wp2_with fail;refine C1.out.mono ?_;rintro e w2 ⟨rfl,b2⟩;have HB2:=yT HB b2;clear b2;go_wp2_with fail;go_ret;refine⟨?_,HB2.out⟩;unfold idxB;rw[E.out,if_pos hkl];rfl
  | true=>
   have E:=yH (TN.out hx);rw[hx]at C1;clear FA TN hx;go_wp2_with fail;refine C1.out.mono ?_;rintro e w2 ⟨rfl,b2⟩;have HB2:=yT HB b2;clear b2;go_wp2_with fail;go_roundw
   case rel=>exact⟨k+1,by omega,by go_num,E.out,HB2.out⟩
   case measure=>simp[intOf];omega
 have E:Hid (aC8 l s b=l.length):=yH (posB_none (by have:=hn;rwa [List.take_of_length_le (by omega)]at this));have HB:=yH hb;clear hn hb;go_wp2_with fail;go_ret;refine⟨?_,HB.out⟩;unfold idxB;rw[E.out,if_neg (by omega)];rfl
theorem aOu:∀(l:List Of) (k:Nat) (x:Of),k<l.length→(aAa l).take (k*7)++x.vals++(aAa l).drop (k*7+7)=aAa (l.set k x):=by
 intro l k x h;have e0:aAa l=aAa (l.take k)++aAa (l.drop k):=by rw[←aAw,List.take_append_drop]
 have e1:aAa l=aAa (l.take (k+1))++aAa (l.drop (k+1)):=by rw[←aAw,List.take_append_drop]
 have h1:(aAa l).take (k*7)=aAa (l.take k):=by rw[e0,List.take_left' (by rw[aAp,List.length_take];omega)]
 have h2:(aAa l).drop (k*7+7)=aAa (l.drop (k+1)):=by rw[e1,List.drop_left' (by rw[aAp,List.length_take];omega)]
 rw[h1,h2,List.set_eq_take_append_cons_drop,if_pos h,aAw,show x::l.drop (k+1)=[x]++l.drop (k+1)from rfl,aAw,aGa,List.append_assoc]
theorem owns_store{w:World}{base g n cap k:Nat}{e:TypeId}{d:List Of}(h:w.ownsRow base e 7 (.slice (some ⟨g,0,none⟩) n cap) n (aAa d))(hd:d.length=n)(hk:k<n)(x:Of):
  (w.setCells g (k*7) x.vals).ownsRow base e 7 (.slice (some ⟨g,0,none⟩) n cap) n (aAa (d.set k x)):=by
 obtain⟨_,hx⟩:=h;rcases hx with⟨hx,_⟩|⟨g',cap',cur,hv,hbase,hb,h1,h2,h3,h4⟩
 ·cases hx
 cases hv
 obtain⟨cur',hb',hc'⟩:=aCr (w:=w) (e:=e) x.vals (k*7) cur hb (by rw[Of.vals_len,h3];omega);refine⟨by rw[aAp,List.length_set,hd],.inr ⟨g,cap,cur',rfl,hbase,hb',h1,h2,?_,?_⟩⟩
 ·rw[←Array.length_toList,hc'];simp only[List.length_append,List.length_take,List.length_drop,Array.length_toList,Of.vals_len,h3];omega
 rw[hc',←aOu d k x (by omega),←h4,Of.vals_len];have hcl:cur.toList.length=cap*7:=by rw[Array.length_toList,h3]
 rw[List.take_take,Nat.min_eq_left (by omega),List.take_append,List.length_append,List.length_take,Of.vals_len,hcl,Nat.min_eq_left (by omega)];rw[List.take_of_length_le (l:=cur.toList.take (k*7)++x.vals) (by rw[List.length_append,List.length_take,Of.vals_len,hcl];omega),List.drop_take]
theorem zero_one(n:Nat):∀u∈(Builtin.zeroCells zOff.cells n).toList,u.oneCell'=true:=by
 intro u hu;unfold Builtin.zeroCells at hu;simp at hu;obtain⟨i,hi,rfl⟩:=hu;have h7:zOff.cells.size=7:=rfl;rw[h7];have h:=Nat.mod_lt i (show 7 > 0 by omega);generalize i%7=m at *
 match m,h with
 | 0,_=>rfl
 | 1,_=>rfl
 | 2,_=>rfl
 | 3,_=>rfl
 | 4,_=>rfl
 | 5,_=>rfl
 | 6,_=>rfl
theorem aLp(n:Nat):(Builtin.zeroCells zOff.cells n).toList.length=n*7:=by
 unfold Builtin.zeroCells;simp;rfl
theorem owns_cut{w:World}{base g n cap i:Nat}{e:TypeId}{d f:List Of}(h:w.ownsRow base e 7 (.slice (some ⟨g,0,none⟩) n cap) n (aAa d))(hd:d.length=n)(hi:i≤n)(hf:d.take i=f)(hfl:f.length=i)(zs:List Value)(hz:zs.length=(n - i)*7):
  (w.setCells g (i*7) zs).ownsRow base e 7 (.slice (some ⟨g,0,none⟩) i cap) i (aAa f):=by
 obtain⟨_,hx⟩:=h;rcases hx with⟨hx,_⟩|⟨g',cap',cur,hv,hbase,hb,h1,h2,h3,h4⟩
 ·cases hx
 cases hv
 obtain⟨cur',hb',hc'⟩:=aCr (w:=w) (e:=e) zs (i*7) cur hb (by rw[hz,h3];omega);refine⟨by rw[aAp,hfl],.inr ⟨g,cap,cur',rfl,hbase,hb',by omega,h2,?_,?_⟩⟩
 ·rw[←Array.length_toList,hc'];simp only[List.length_append,List.length_take,List.length_drop,Array.length_toList,hz,h3];omega
 have hcl:cur.toList.length=cap*7:=by rw[Array.length_toList,h3]
 rw[hc',List.append_assoc,List.take_append_of_le_length (by rw[List.length_take,hcl];omega),List.take_take,Nat.min_self];have e1:cur.toList.take (i*7)=(cur.toList.take (n*7)).take (i*7):=by rw[List.take_take,Nat.min_eq_left (by omega)]
 rw[e1,h4,←hf];have e0:aAa d=aAa (d.take i)++aAa (d.drop i):=by rw[←aAw,List.take_append_drop]
 rw[e0,List.take_left' (by rw[aAp,List.length_take];omega)]
theorem aGn{w:World}{base g n cap o:Nat}{e:TypeId}{xs:List Value}(h:w.ownsRow base e 7 (.slice (some ⟨g,0,none⟩) n cap) n xs)(ho:o<n*7):(w.cell? ⟨g,o,none⟩).isSome=true∧w.frozen? ⟨g,o,none⟩=false:=by
 obtain⟨_,hx⟩:=h;rcases hx with⟨hx,_⟩|⟨g',cap',cur,hv,hbase,hb,h1,h2,h3,h4⟩
 ·cases hx
 cases hv
 refine⟨?_,Blk.frozen (show Blk w g cur e from hb) o⟩;rw[Blk.cell (show Blk w g cur e from hb),Array.getElem?_eq_getElem (by rw[h3];omega)];rfl
theorem owns_there{w:World}{base g n cap k:Nat}{e:TypeId}{xs:List Value}(h:w.ownsRow base e 7 (.slice (some ⟨g,0,none⟩) n cap) n xs)(hk:k<n):w.there g (k*7) 7:=fun j hj=>aGn h (by omega)
theorem aJz{P:Program}(w:World)(t e:TypeId)(ht:P.underlying t=some (.slice e))(hs:(sizeOf e).run P w=.ok 7 w)(g n cap j:Nat)(h:j<n)(h2:n≤cap):
  (Instr.sliceAt t (.slice (some ⟨g,0,none⟩) n cap) (some (.int .i64 (j:Int))) none none).run P w=.ok (.slice (some ⟨g,j*7,none⟩) (n - j) (cap - j)) w:=by
 have:=aF3 (P:=P) w t e ht hs g n cap j (by omega) h2 (j:Int) rfl;unfold aHx at this;rw[if_neg (by omega)]at this;exact this
def aB1(l:List Of)(s b:Int)(j:Nat):Nat:=((l.take j).filter (aAx s b)).length
theorem aKn(l:List Of)(s b:Int){j:Nat}(h:j<l.length):aB1 l s b (j+1)=aB1 l s b j+(if aAx s b l[j]=true then 1 else 0):=by
 unfold aB1;rw[List.take_succ_eq_append_getElem h,List.filter_append,List.length_append];congr 1
 by_cases q:aAx s b l[j]=true <;> simp[List.filter_cons,q]
theorem keptN_le(l:List Of)(s b:Int)(j:Nat):aB1 l s b j≤j:=by
 unfold aB1;exact Nat.le_trans (List.length_filter_le _ _) (List.length_take_le _ _)
structure aEz(l d:List Of)(s b:Int)(j:Nat):Prop where
 len:d.length=l.length
 lt:aB1 l s b j<j
 low:d.take (aB1 l s b j)=(l.take j).filter (aAx s b)
 high:d.drop j=l.drop j
theorem aEz.start{l:List Of}{s b:Int}(h:aC8 l s b<l.length):aEz l l s b (aC8 l s b+1)∧aB1 l s b (aC8 l s b+1)=aC8 l s b:=by
 have hall:(l.take (aC8 l s b)).filter (aAx s b)=l.take (aC8 l s b):=by
  rw[List.filter_eq_self];intro x hx;obtain⟨j,hj,rfl⟩:=List.mem_take_iff_getElem.1 hx;exact aM7 (by omega)
 have hf:(l.take (aC8 l s b+1)).filter (aAx s b)=l.take (aC8 l s b):=by
  rw[List.take_succ_eq_append_getElem h,List.filter_append,hall];simp[List.filter_cons,posB_hit h]
 have hk:aB1 l s b (aC8 l s b+1)=aC8 l s b:=by
  unfold aB1;rw[hf,List.length_take];omega
 exact⟨⟨rfl,by omega,by rw[hk,hf],rfl⟩,hk⟩
theorem aEz.get{l d:List Of}{s b:Int}{j:Nat}(h:aEz l d s b j)(hj:j<l.length):d[j]'(by rw[h.len];exact hj)=l[j]:=by
 have h1:d.drop j=l.drop j:=h.high;have h2:(d.drop j)[0]? = (l.drop j)[0]? := by rw[h1]
 rw[List.getElem?_drop,List.getElem?_drop,Nat.add_zero,List.getElem?_eq_getElem (by rw[h.len];exact hj),List.getElem?_eq_getElem hj]at h2;exact Option.some.inj h2
theorem aEz.skip{l d:List Of}{s b:Int}{j:Nat}(h:aEz l d s b j)(hj:j<l.length)(hq:aAx s b l[j]=false):aEz l d s b (j+1)∧aB1 l s b (j+1)=aB1 l s b j:=by
 have hk:aB1 l s b (j+1)=aB1 l s b j:=by rw[aKn l s b hj,hq];simp
 refine⟨⟨h.len,by have:=h.lt;omega,?_,?_⟩,hk⟩
 ·rw[hk,h.low,List.take_succ_eq_append_getElem hj,List.filter_append];simp[List.filter_cons,hq]
 rw[←List.drop_drop,h.high,List.drop_drop]
theorem aEz.keep{l d:List Of}{s b:Int}{j:Nat}(h:aEz l d s b j)(hj:j<l.length)(hq:aAx s b l[j]=true):aEz l (d.set (aB1 l s b j) l[j]) s b (j+1)∧aB1 l s b (j+1)=aB1 l s b j+1:=by
 have hk:aB1 l s b (j+1)=aB1 l s b j+1:=by rw[aKn l s b hj,hq];simp
 have hlt:=h.lt;refine⟨⟨by rw[List.length_set];exact h.len,by omega,?_,?_⟩,hk⟩
 ·have hl:aB1 l s b j<d.length:=by rw[h.len];omega
  rw[hk,List.take_succ_eq_append_getElem (by rw[List.length_set];exact hl),List.take_set_of_le yL,h.low,List.getElem_set_self,List.take_succ_eq_append_getElem hj,List.filter_append];simp[List.filter_cons,hq]
 rw[List.drop_set_of_lt (by omega),←List.drop_drop,h.high,List.drop_drop]
def DelAt(w:World)(base g cap:Nat)(l:List Of)(s b:Int)(s5 s6:Value)(wr:World):Prop:=
 ∃(j:Nat) (d:List Of),j≤l.length∧s5=.int .i64 (aB1 l s b j:Nat)∧s6=.int .i64 j∧aEz l d s b j∧wr.ownsRow base 129 7 (.slice (some ⟨g,0,none⟩) l.length cap) l.length (aAa d)∧Keep (·=g) w wr
theorem pdelf_any{w:World}{base c1 c2:Nat}{l:List Of}{s b:Int}{v:Value}(h:w.ownsRow base 129 7 v l.length (aAa l))(hl:l.length≤1000)(h1:Blk w c1 #[.int .u8 s] 44)(h2:Blk w c2 #[.int .u8 b] 44):
  Calls Tryz.prog 75 #[v,.func (.func 77) #[] #[.pointer (some ⟨c1,0,none⟩),.pointer (some ⟨c2,0,none⟩)]] w fun e w'=>∃v',e=.returned v'∧w'.ownsRow base 129 7 v' (l.filter (aAx s b)).length (aAa (l.filter (aAx s b)))∧Keep (fun k=>v.ownBlock=some k) w w'∧v'.ownBlock=v.ownBlock:=by
 have CI:=yH (pidxB_any h h1 h2)
 by_cases hp:aC8 l s b<l.length
 ·rw[show idxB l s b=.int .i64 (aC8 l s b:Nat) by unfold idxB;rw[if_pos hp]]at CI;obtain⟨D0,kp⟩:=aEz.start hp;obtain⟨ao,cap,rfl,hc1,hc2,hc3,hc4⟩:=aAf h;obtain⟨g,rfl,hb1,hb2,_,_⟩:=hc4 (by omega);have hne1:c1≠g:=fun e=>(aB3 h h1 (by decide)) g rfl e.symm
  have hne2:c2≠g:=fun e=>(aB3 h h2 (by decide)) g rfl e.symm
  have HO:=yH h;have K1:=yH h1;have K2:=yH h2;have HD0:=yH D0;have HKP:=yH kp;have HN:=yH (And.intro hne1 hne2);have e1:((aC8 l s b:Int) == -1)=false:=by simp <;> omega
  unfold maxLen at hc2;generalize hpk:aC8 l s b=k0 at *;have HPK:=yH hpk;clear hc3 hc4 h h1 h2 D0 kp hne1 hne2 hpk;go_enter Tryz.func75,Tryz.ntmps75;go_wp2_with fail;refine CI.out.mono ?_;rintro e w1 ⟨rfl,b1⟩;have HO1:=yH (aAq HO.out b1);have K11:=yB K1 b1;have K21:=yB K2 b1;have HB1:=yH b1;clear b1 CI HO K1 K2;go_wp2_with fail
  go_loopw [5,6] (DelAt w1 base g cap l s b) (fun _ j _=>l.length - (intOf j).toNat)
  case atStart=>exact⟨k0+1,l,by omega,by rw[HKP.out],by go_num,HD0.out,HO1.out,Keep.refl _ _⟩
  obtain⟨j,d,hj,rfl,rfl,hD,hown,hk⟩:=hrel;have hgl:g<wr.heap.size:=(aAi hown rfl).2.1
  by_cases hjl:j<l.length
  ·have hdl:j<d.length:=by rw[hD.len];exact hjl
   have hget:=hD.get hjl;obtain⟨ao',cap',hv,_,_,_,hr⟩:=aAf hown
   cases hv
   obtain⟨g',hg',_,_,hcell,hfr⟩:=hr (by omega)
   cases hg'
   obtain⟨e0,e1,e2,e3,e4,e5,e6⟩:=aCp (w:=wr) (ls:=d) (fun t ht=>hcell t (by rw[←hD.len];exact ht)) hdl;rw[hget]at e0 e1 e2 e3 e4 e5 e6;have HDv:=yH hD;have HW:=yH hown;have HK:=yH hk;have HF:=yH hfr;have K12:=yH (K11.out.keep hk HN.out.1);have K22:=yH (K21.out.keep hk HN.out.2);have hkl:=keptN_le l s b j;have DS:=yH (fun hq=>hD.skip hjl hq);have DK:=yH (fun hq=>hD.keep hjl hq);clear hget hr hcell hfr hown hk hD hdl;generalize l[j]=x at *;generalize hkn:aB1 l s b j=m at *;clear hkn;have bw:=(Below.refl wr.heap.size wr).alloc yL (.cells #[.int .u64 x.se,.int .u8 x.ow,.int .u8 x.sl,.int .u8 x.bu,.int .i64 x.lf,.int .i64 x.nu,.int .i64 x.de] 129);have CB:=yH (aM6 x (K12.out.below bw K12.out.lt) (K22.out.below bw K22.out.lt));have KX:=yH (pAA wr #[.int .u64 x.se,.int .u8 x.ow,.int .u8 x.sl,.int .u8 x.bu,.int .i64 x.lf,.int .i64 x.nu,.int .i64 x.de] 129);have HBW:=yH bw;clear bw
   cases hq:aAx s b x with
   | false=>
    have E:=yH (DS.out hq);rw[hq]at CB;clear DS DK hq;go_wp2_with fail;refine CB.out.mono ?_;rintro e w2 ⟨rfl,b2⟩;have HB2:=yT HBW b2;clear b2;go_wp2_with fail;go_roundw
    case rel=>exact⟨j+1,d,by omega,by rw[E.out.2],by go_num,E.out.1,aAq HW.out HB2.out,HK.out.trans (pAD HB2.out)⟩
    case measure=>simp[intOf];omega
   | true=>
    have E:=yH (DK.out hq);rw[hq]at CB;clear DS DK hq;go_wp2_with fail;refine CB.out.mono ?_;rintro e w2 ⟨rfl,b2⟩;have HB2:=yT HBW b2;have KX2:=KX.out.below b2 KX.out.lt;have d0:=KX2.cell 0;have d1:=KX2.cell 1;have d2:=KX2.cell 2;have d3:=KX2.cell 3;have d4:=KX2.cell 4;have d5:=KX2.cell 5;have d6:=KX2.cell 6;simp at d0 d1 d2 d3 d4 d5 d6;have hxl:=KX2.lt;have HW2:=yH (aAq HW.out HB2.out);have HT:=yH (owns_there HW2.out (k:=m) (by omega));obtain⟨W3,hW3⟩:∃W3,W3=w2.setCells g (m*7) [.int .u64 x.se,.int .u8 x.ow,.int .u8 x.sl,.int .u8 x.bu,.int .i64 x.lf,.int .i64 x.nu,.int .i64 x.de]:=⟨_,rfl⟩;have HW3:=yH hW3;have HO3:=yH (show W3.ownsRow base 129 7 (.slice (some ⟨g,0,none⟩) l.length cap) l.length (aAa (d.set m x)) by rw[hW3];exact owns_store HW2.out HDv.out.len (by omega) x);have HK3:=yH (show Keep (·=g) w1 W3 by rw[hW3];exact Keep.setCells _ _ (HK.out.trans (pAD HB2.out)) (.inl rfl));clear b2 KX2 hW3;go_wp2_with (refine wpList_store_mid rfl 129 (.tmp 33) (.tmp 32) rfl g (m*7) #[.int .u64 x.se,.int .u8 x.ow,.int .u8 x.sl,.int .u8 x.bu,.int .i64 x.lf,.int .i64 x.nu,.int .i64 x.de] rfl rfl HT.out (by kernel_rfl) (by simp[Value.oneCell']) ?_;rw[←HW3.out]);go_roundw
    case rel=>exact⟨j+1,d.set m x,by omega,by rw[E.out.2];go_num,by go_num,E.out.1,HO3.out,HK3.out⟩
    case measure=>simp[intOf];omega
  have hje:j=l.length:=by omega
  subst hje;have hkl:=hD.lt;have hlo:=hD.low;have hdn:=hD.len;rw[List.take_of_length_le yL]at hlo;have hfl:(l.filter (aAx s b)).length=aB1 l s b l.length:=by unfold aB1;rw[List.take_of_length_le yL]
  have HK:=yH hk;have HC:=yH (owns_cut hown hdn (by omega) hlo hfl (Builtin.zeroCells zOff.cells (l.length - aB1 l s b l.length)).toList (by rw[aLp]))
  have hcl:∀ty,(Builtin.clear_ #[61] ty #[.slice (some ⟨g,aB1 l s b l.length*7,none⟩) (l.length - aB1 l s b l.length) (cap - aB1 l s b l.length)]).run Tryz.prog wr=.ok (.tuple #[]) (wr.setCells g (aB1 l s b l.length*7) (Builtin.zeroCells zOff.cells (l.length - aB1 l s b l.length)).toList):=fun ty=>
   aFh wr 61 129 ty zOff Tryz.underlying61 (Tryz.zeroValue129) g (aB1 l s b l.length*7) _ _ (by omega) (zero_one _)
    (fun t ht=>(aGn hown (by rw[aLp]at ht;omega)).1) (fun t ht=>(aGn hown (by rw[aLp]at ht;omega)).2)
  have hr:=aJz (P:=Tryz.prog) wr 61 129 Tryz.underlying61 (Tryz.sizeOf129 _) g l.length cap (aB1 l s b l.length) hkl (by omega);obtain⟨W3,hW3⟩:∃W3,W3=wr.setCells g (aB1 l s b l.length*7) (Builtin.zeroCells zOff.cells (l.length - aB1 l s b l.length)).toList:=⟨_,rfl⟩;have HK3:=yH (show Keep (·=g) w1 W3 by rw[hW3];exact Keep.setCells _ _ HK.out (.inl rfl));simp only[←hW3]at hcl HC;rw[←hfl]at HC hcl hr hkl ⊢;obtain⟨m,hm⟩:∃m,(l.filter (aAx s b)).length=m:=⟨_,rfl⟩;rw[hm]at HC hcl hr hkl ⊢;have HM:=yH hm;clear hm;have hic:m≤cap:=by omega
  clear hW3 hfl hlo hdn hown hk hD;go_wp2_with fail;refine bodyPost_ret (v:=.slice (some ⟨g,0,none⟩) m cap) (by simp[results,Tryz.results75,go_sem]) rfl ?_;exact⟨_,rfl,by rw[HM.out];exact HC.out,((pAD HB1.out).trans HK3.out).mono (fun k _ (hk:k=g)=>by rw[hk];rfl),rfl⟩
 rw[show idxB l s b=.int .i64 (-1) by unfold idxB;rw[if_neg hp]]at CI
 have hfe:l.filter (aAx s b)=l:=by
  rw[List.filter_eq_self];intro x hx;obtain⟨j,hj,rfl⟩:=List.mem_iff_getElem.1 hx;exact aM7 (by have:=posB_le l s b;omega)
 rw[hfe];obtain⟨ao,cap,rfl,_⟩:=aAf h;have HO:=yH h;clear h h1 h2 hp hfe;go_enter Tryz.func75,Tryz.ntmps75;go_wp2_with fail;refine CI.out.mono ?_;rintro e w1 ⟨rfl,b1⟩;have HB1:=yH b1;clear b1 CI;go_wp2_with fail;refine bodyPost_ret (v:=.slice ao l.length cap) (by simp[results,Tryz.results75,go_sem]) rfl ?_;exact⟨_,rfl,aAq HO.out HB1.out,pAD HB1.out,rfl⟩
theorem pbest_of{w:World}{base:Nat}{pv v:Value}{l:List Of}{N:Int}{s b:Int}(hc:∀w',Below w.heap.size w w'→Calls Tryz.prog 65 #[pv] w' fun e w''=>e=.returned v∧w'=w'')(h:w.ownsRow base 129 7 v l.length (aAa l))(hI:BInv l N):
  Calls Tryz.prog 31 #[pv,.int .u8 s,.int .u8 b] w (aFq w 48 7 (aGm l s b).length (aAa (aGm l s b))):=by
 have hlen:=hI.len;have hbw:=((Below.refl w.heap.size w).alloc yL (.cells #[.int .u8 s] 44)).alloc (by simp) (.cells #[.int .u8 b] 44);have HB:=yH hbw;have K1:=yH ((pAA w #[.int .u8 s] 44).alloc (.cells #[.int .u8 b] 44));have K2:=yH (pAC (w.alloc (.cells #[.int .u8 s] 44)) #[.int .u8 b] 44 (g:=w.heap.size+1) (by simp));have C1:=yH (hc _ hbw);have C2:=yH (aKh (aAq h hbw) (by omega));obtain⟨bp,bs⟩:=bestO_is hI.may hI.rise s b
 have hgood:∀x∈l.filter (aAx s b),x.may∧0≤x.se∧x.se≤18446744073709551615:=fun x hx=>by
  have hx:=(List.mem_filter.1 hx).1;have:=hI.bd x hx;have:=hI.n2;exact⟨hI.may x hx,by omega,by omega⟩
 have hne:(l.filter (aAx s b)).Pairwise fun x y=>x.se≠y.se:=(hI.rise.filter _).imp fun h=>by omega
 have hfl:(l.filter (aAx s b)).length≤1000:=Nat.le_trans (List.length_filter_le _ _) (by omega);have HS:=yH (fun(w:World) (base:Nat) (v:Value) (h:w.ownsRow base 129 7 v (l.filter (aAx s b)).length (aAa (l.filter (aAx s b))))=>sortO_any hgood bp bs hne hfl h);have HM:=yH (show(aGm l s b).length≤1000 by rw[bp.length_eq];exact hfl);clear hbw hc h hI bp bs hgood hne hfl;go_enter Tryz.func31,Tryz.ntmps31;go_wp2_with fail;generalize hWW:(w.alloc (.cells #[.int .u8 s] 44)).alloc (.cells #[.int .u8 b] 44)=W at *;have HWs:=yH (show W.heap.size=w.heap.size+2 by rw[←hWW];simp);clear hWW;refine C1.out.mono ?_;rintro e W ⟨rfl,rfl⟩;go_wp2_with fail;refine C2.out.mono ?_;rintro e w1 ⟨v1,rfl,o1,b1⟩;have CD:=yH (pdelf_any o1 (by omega) (K1.out.below b1 K1.out.lt) (K2.out.below b1 K2.out.lt));have HB1:=yT HB b1;have HO1:=yH o1;have HW1:=yH b1.size;clear o1 b1 C2 C1;go_wp2_with fail;refine CD.out.mono ?_;rintro e w2 ⟨v2,rfl,o2,k2,e2⟩;have HK2:=yH k2;have CS:=yH (HS.out _ _ _ o2);have HE:=yH e2;have hv2:∃ao c,v2=.slice ao (l.filter (aAx s b)).length c:=by obtain⟨ao,c,hv,_⟩:=aAf o2;exact⟨ao,c,hv⟩
 have HB2:=yH (HB1.out.trans (k2.below HB1.out.size (fun k hk e=>by have:=(aAi HO1.out e).1;have:=HWs.out;omega)));have HO2:=yH o2;clear o2 k2 e2 CD;obtain⟨ao,c,rfl⟩:=hv2;go_wp2_with fail;refine CS.out.mono ?_;rintro e w3 ⟨rfl,o3,k3⟩;have CT:=yH (told_any o3 HM.out);have HB3:=yH (HB2.out.trans (k3.below HB2.out.size (fun k hk e=>by have:=(aAi HO2.out e).1;have:=HWs.out;omega)));clear o3 k3 CS;go_wp2_with fail;refine CT.out.mono ?_;rintro e w4 ⟨v',rfl,h1,b4⟩;have H1:=yH h1;have HB4:=yT HB3 b4;clear h1 b4 CT;go_wp2_with fail;refine bodyPost_ret (v:=v') (by simp[results,Tryz.results31,go_sem]) rfl ?_;exact⟨v',rfl,H1.out.base HB3.out.size,HB4.out⟩
theorem pbest_any{w:World}{base g:Nat}{l:List Of}{N:Int}{vl:Value}(h:PB w base g l N vl)(hI:BInv l N)(s b:Int):
  Calls Tryz.prog 31 #[.pointer (some ⟨g,0,none⟩),.int .u8 s,.int .u8 b] w (aFq w 48 7 (aGm l s b).length (aAa (aGm l s b))):=by
 obtain⟨ao,cap,rfl,_⟩:=aAf h.row;exact pbest_of (fun w' k=>ball_any (h.below k).blk) h.row hI
end Go.Proofs.YtaeocliklpcgmaaGreat
