/- Pieces of one proof. -/
import Derived.Test.YtaeocliklpcgmaaGreatV08
import Derived.Maps.Keyed
import Derived.Maps.RangeRun
import Derived.DeepKeys4
import Derived.Carry
set_option linter.all false
set_option maxHeartbeats 64000000
set_option maxRecDepth 100000
namespace Go.Proofs.YtaeocliklpcgmaaGreat
open Go.RowKit
open Go.MapKept (Stamped stamped_iff stamped_empty stamped_push stamped_modify stamped_erase)
open Go.ChangeMaps (setBlock)
structure aKv(P:Program)(k:TypeId)(S:Value→Prop):Prop where
 check:∀(w:World) (em:Bool) (v:Value),S v→(Instr.checkKey em 10000 k v).run P w=.ok () w
 find:∀(w:World) (x:Value),S x→∀es:List MapEntry,(∀e∈es,S e.key)→
  ((Instr.findKey k x es).run P w=.ok none w∧∀e∈es,e.key≠x)∨∃j e,(Instr.findKey k x es).run P w=.ok (some (j,e.val)) w∧es[j]? = some e∧e.key=x
 stays:∀(w:World) (v:Value),S v→(Instr.keyThatStays v v).run P w=.ok v w
theorem pAK{P:Program}{k:TypeId}{S:Value→Prop}(K:Go.Maps.Keyed P k)(h:∀v,S v→∃l,keyOf P k v=some l):aKv P k S where
 check w em v hv:=by obtain⟨l,hl⟩:=h v hv;exact K.check w em hl
 find w x hx es hes:=by
  obtain⟨l,hl⟩:=h x hx;exact K.find w hl es (fun e he=>h _ (hes e he))
 stays w v hv:=by obtain⟨l,hl⟩:=h v hv;exact K.stays w hl
def kv(e:MapEntry):Value×Value:=(e.key,e.val)
def aAx(w:World)(m:Nat)(kvs:List (Value×Value)):Prop:=
 ∃es clock,w.heap[m]? = some (.map es clock)∧Stamped es clock∧es.toList.map kv=kvs
theorem aCt{w:World}{r:Nat}{o:Obj}(hb:w.heap[r]? = some o)(o':Obj):(setBlock w r o').heap[r]? = some o':=(MapKept.heap_set hb).1
theorem aIm{w:World}{r:Nat}(o':Obj){i:Nat}(h:i≠r):(setBlock w r o').heap[i]? = w.heap[i]? := by
 show(w.heap.setIfInBounds r o')[i]? = _;rw[Array.getElem?_setIfInBounds_ne (Ne.symm h)]
structure aDe(m:Nat)(w w':World):Prop where
 os:w'.os=w.os
 tape:w'.tape=w.tape
 output:w'.output=w.output
 size:w'.heap.size=w.heap.size
 block:∀i,i≠m→w'.heap[i]? = w.heap[i]?
theorem aDe.set(w:World)(m:Nat)(o:Obj):aDe m w (setBlock w m o):=⟨rfl,rfl,rfl,by simp[setBlock],fun i hi=>aIm _ hi⟩
theorem aDe.keep{m:Nat}{w w':World}(h:aDe m w w'):Keep (·=m) w w':=⟨h.os,h.tape,h.output,by rw[h.size];exact Nat.le_refl _,fun k _ hk=>h.block k hk⟩
theorem aAx.lt{w:World}{m:Nat}{kvs:List (Value×Value)}(h:aAx w m kvs):m<w.heap.size:=by
 obtain⟨es,clock,hb,_⟩:=h;exact(Array.getElem?_eq_some_iff.1 hb).1
theorem aAx.keep{S:Nat→Prop}{w w':World}{m:Nat}{kvs:List (Value×Value)}(h:aAx w m kvs)(k:Keep S w w')(hs:¬S m):aAx w' m kvs:=by
 have hlt:=h.lt;obtain⟨es,clock,hb,h2⟩:=h;exact⟨es,clock,by rw[k.block m hlt hs];exact hb,h2⟩
theorem aAx.below{w w':World}{B m:Nat}{kvs:List (Value×Value)}(h:aAx w m kvs)(k:Below B w w')(hm:m<B):aAx w' m kvs:=by
 obtain⟨es,clock,hb,h2⟩:=h;exact⟨es,clock,by rw[k.block m hm];exact hb,h2⟩
theorem aAx.made(w:World):aAx (w.alloc (.map #[] 0)) w.heap.size []:=
 ⟨#[],0,heap_alloc_new w _,stamped_empty 0,rfl⟩
theorem aAx.ne_blk{w:World}{m g:Nat}{kvs:List (Value×Value)}{cs:Array Value}{t:TypeId}(h:aAx w m kvs)(b:Blk w g cs t):m≠g:=by
 rintro rfl;obtain⟨es,clock,hb,_⟩:=h;unfold Blk at b;rw[b]at hb
 cases hb
section
variable{P:Program}{k t e:TypeId}{S:Value→Prop}{w:World}{m:Nat}{kvs:List (Value×Value)}
theorem aGd{es:Array MapEntry}(h:es.toList.map kv=kvs)(hS:∀p∈kvs,S p.1):∀x∈es.toList,S x.key:=fun x hx=>hS (kv x) (by rw[←h];exact List.mem_map_of_mem hx)
theorem aAx.look_none(h:aAx w m kvs)(K:aKv P k S)(hS:∀p∈kvs,S p.1)(ht:P.underlying t=some (.map k e)){z:Value}(hz:(zeroValue e).run P w=.ok z w){key:Value}(hk:S key)(hno:∀p∈kvs,p.1≠key)(c:Bool):
  (Instr.lookup t (.map (some m)) key c).run P w=.ok (if c then .tuple #[z,.bool false]else z) w:=by
 obtain⟨es,clock,hb,F,hl⟩:=h;rcases K.find w key hk es.toList (aGd hl hS)with⟨h1,h2⟩|⟨j,e0,h1,h2,h3⟩
 ·simp[Instr.lookup,run_underlying ht,MapKept.run_getObj_map hb,K.check w _ key hk,h1,hz,Result.andThen]
 exact absurd h3 (hno (kv e0) (by rw[←hl];exact List.mem_map_of_mem (List.mem_of_getElem? h2)))
theorem aAx.look_some(h:aAx w m kvs)(K:aKv P k S)(hS:∀p∈kvs,S p.1)(ht:P.underlying t=some (.map k e)){key v:Value}(hk:S key)(hin:(key,v)∈kvs)(c:Bool):
  (Instr.lookup t (.map (some m)) key c).run P w=.ok (if c then .tuple #[v,.bool true]else v) w:=by
 obtain⟨es,clock,hb,F,hl⟩:=h;rw[←hl]at hin;obtain⟨e1,he1,hkv⟩:=List.mem_map.1 hin;unfold kv at hkv
 cases hkv
 rcases K.find w e1.key hk es.toList (aGd hl hS)with⟨h1,h2⟩|⟨j,e0,h1,h2,h3⟩
 ·exact absurd rfl (h2 e1 he1)
 have hp:=((stamped_iff es clock).1 F).2.2;have hm0:e0∈es.toList:=List.mem_of_getElem? h2
 have he:e0=e1:=by
  by_cases hne:e0=e1
  ·exact hne
  exfalso;obtain⟨i0,hi0,rfl⟩:=List.getElem_of_mem hm0;obtain⟨i1,hi1,rfl⟩:=List.getElem_of_mem he1;rcases Nat.lt_trichotomy i0 i1 with h'|h'|h'
  ·exact(List.pairwise_iff_getElem.1 hp i0 i1 hi0 hi1 h') h3
  ·subst h';exact hne rfl
  exact(List.pairwise_iff_getElem.1 hp i1 i0 hi1 hi0 h') h3.symm
 subst he;simp[Instr.lookup,run_underlying ht,MapKept.run_getObj_map hb,K.check w _ _ hk,h1,Result.andThen]
theorem aAx.store_new(h:aAx w m kvs)(K:aKv P k S)(hS:∀p∈kvs,S p.1)(ht:P.underlying t=some (.map k e)){key v:Value}(hk:S key)(hno:∀p∈kvs,p.1≠key):
  ∃w',(Instr.mapUpdate t (.map (some m)) key v).run P w=.ok () w'∧aAx w' m (kvs++[(key,v)])∧aDe m w w':=by
 obtain⟨es,clock,hb,F,hl⟩:=h;rcases K.find w key hk es.toList (aGd hl hS)with⟨h1,h2⟩|⟨j,e0,h1,h2,h3⟩
 ·refine⟨setBlock w m (.map (es.push ⟨key,v,clock⟩) (clock+1)),?_,⟨_,_,aCt hb _,stamped_push F h2,?_⟩,aDe.set _ _ _⟩
  ·simp[Instr.mapUpdate,run_underlying ht,MapKept.run_getObj_map hb,K.check w false key hk,h1,MapKept.run_setObj_map _ hb,Result.andThen,setBlock]
  rw[Array.toList_push,List.map_append,hl];rfl
 exact absurd h3 (hno (kv e0) (by rw[←hl];exact List.mem_map_of_mem (List.mem_of_getElem? h2)))
theorem found_at{es:Array MapEntry}{clock:Nat}(F:Stamped es clock){A B:List (Value×Value)}{key v:Value}(hl:es.toList.map kv=A++(key,v)::B){j:Nat}{e0:MapEntry}(h2:es.toList[j]? = some e0)(h3:e0.key=key):j=A.length:=by
 have hp:(es.toList.map kv).Pairwise fun p q=>p.1≠q.1:=by rw[List.pairwise_map];exact((stamped_iff es clock).1 F).2.2
 have hj:(es.toList.map kv)[j]? = some (kv e0):=by rw[List.getElem?_map,h2];rfl
 rw[hl]at hj hp;have hA:(A++(key,v)::B)[A.length]? = some (key,v):=by simp
 obtain⟨hj1,hj2⟩:=List.getElem?_eq_some_iff.1 hj;obtain⟨hA1,hA2⟩:=List.getElem?_eq_some_iff.1 hA;have hne:=List.pairwise_iff_getElem.1 hp;rcases Nat.lt_trichotomy j A.length with h'|h'|h'
 ·have:=hne j A.length hj1 hA1 h';rw[hj2,hA2]at this;exact absurd h3 this
 ·exact h'
 have:=hne A.length j hA1 hj1 h';rw[hj2,hA2]at this;exact absurd h3.symm this
theorem aAx.store_old(h:aAx w m kvs)(K:aKv P k S)(hS:∀p∈kvs,S p.1)(ht:P.underlying t=some (.map k e)){A B:List (Value×Value)}{key u v:Value}(hk:S key)(hin:kvs=A++(key,u)::B):
  ∃w',(Instr.mapUpdate t (.map (some m)) key v).run P w=.ok () w'∧aAx w' m (A++(key,v)::B)∧aDe m w w':=by
 obtain⟨es,clock,hb,F,hl⟩:=h;rcases K.find w key hk es.toList (aGd hl hS)with⟨h1,h2⟩|⟨j,e0,h1,h2,h3⟩
 ·exfalso;have:(key,u)∈es.toList.map kv:=by rw[hl,hin];simp
  obtain⟨e1,he1,hkv⟩:=List.mem_map.1 this;unfold kv at hkv
  cases hkv
  exact h2 e1 he1 rfl
 have hjA:=found_at F (hl.trans hin) h2 h3;have hj:es[j]? = some e0:=by simpa using h2
 have hkeyf:∀e',es[j]? = some e'→({ e' with key:=key,val:=v }:MapEntry).key=e'.key:=fun e' he'=>by rw[hj]at he';cases he';exact h3.symm
 have hlist:(es.modify j (fun e'=>{ e' with key:=key,val:=v })).toList=es.toList.set j { e0 with key:=key,val:=v }:=by rw[Array.toList_modify,Go.ChangeMaps.modify_eq_set _ _ _ _ h2]
 refine⟨setBlock w m (.map (es.modify j (fun e'=>{ e' with key:=key,val:=v })) clock),?_,⟨_,_,aCt hb _,stamped_modify F _ _ (fun _ _=>rfl) (fun e' _ he'=>hkeyf e' he'),?_⟩,aDe.set _ _ _⟩
 ·simp[Instr.mapUpdate,run_underlying ht,MapKept.run_getObj_map hb,K.check w false key hk,h1,hj,h3,K.stays w key hk,MapKept.run_setObj_map _ hb,Result.andThen,setBlock]
 rw[hlist,List.map_set,hl,hin,hjA];show(A++(key,u)::B).set A.length (kv { e0 with key:=key,val:=v })=_;rw[List.set_append];simp[kv]
theorem aAx.drop(h:aAx w m kvs)(K:aKv P k S)(hS:∀p∈kvs,S p.1)(ht:P.underlying t=some (.map k e))(ty:TypeId){A B:List (Value×Value)}{key u:Value}(hk:S key)(hin:kvs=A++(key,u)::B):
  ∃w',(Builtin.delete_ #[t,k] ty #[.map (some m),key]).run P w=.ok (.tuple #[]) w'∧aAx w' m (A++B)∧aDe m w w':=by
 obtain⟨es,clock,hb,F,hl⟩:=h;rcases K.find w key hk es.toList (aGd hl hS)with⟨h1,h2⟩|⟨j,e0,h1,h2,h3⟩
 ·exfalso;have:(key,u)∈es.toList.map kv:=by rw[hl,hin];simp
  obtain⟨e1,he1,hkv⟩:=List.mem_map.1 this;unfold kv at hkv
  cases hkv
  exact h2 e1 he1 rfl
 have hjA:=found_at F (hl.trans hin) h2 h3;have hjl:j<es.toList.length:=(List.getElem?_eq_some_iff.1 h2).1;have hjs:j<es.size:=by simpa using hjl
 have hsub:(es.eraseIdxIfInBounds j).toList=es.toList.eraseIdx j:=by
  unfold Array.eraseIdxIfInBounds;rw[dif_pos hjs];simp
 refine⟨setBlock w m (.map (es.eraseIdxIfInBounds j) clock),?_,⟨_,_,aCt hb _,stamped_erase F j,?_⟩,aDe.set _ _ _⟩
 ·simp[Builtin.delete_,run_underlying ht,MapKept.run_getObj_map hb,K.check w _ key hk,h1,MapKept.run_setObj_map _ hb,Result.andThen,setBlock]
 rw[hsub,Go.ChangeMaps.map_eraseIdx,hl,hin,hjA];rw[List.eraseIdx_append_of_length_le yL];simp
theorem aAx.drop_none(h:aAx w m kvs)(K:aKv P k S)(hS:∀p∈kvs,S p.1)(ht:P.underlying t=some (.map k e))(ty:TypeId){key:Value}(hk:S key)(hno:∀p∈kvs,p.1≠key):
  ∃w',(Builtin.delete_ #[t,k] ty #[.map (some m),key]).run P w=.ok (.tuple #[]) w'∧aAx w' m kvs∧aDe m w w':=by
 obtain⟨es,clock,hb,F,hl⟩:=h;rcases K.find w key hk es.toList (aGd hl hS)with⟨h1,h2⟩|⟨j,e0,h1,h2,h3⟩
 ·refine⟨setBlock w m (.map es clock),?_,⟨_,_,aCt hb _,F,hl⟩,aDe.set _ _ _⟩;simp[Builtin.delete_,run_underlying ht,MapKept.run_getObj_map hb,K.check w _ key hk,h1,MapKept.run_setObj_map _ hb,Result.andThen,setBlock]
 exact absurd h3 (hno (kv e0) (by rw[←hl];exact List.mem_map_of_mem (List.mem_of_getElem? h2)))
theorem aAx.len(h:aAx w m kvs)(ht:P.underlying t=some (.map k e))(ty:TypeId):(Builtin.len_ #[t] ty #[.map (some m)]).run P w=.ok (.int .i64 kvs.length) w:=by
 obtain⟨es,clock,hb,F,hl⟩:=h;have e1:kvs.length=es.size:=by rw[←hl];simp
 rw[e1];simp[Builtin.len_,run_underlying ht,MapKept.run_getObj_map hb,goInt,Result.andThen]
def Ranging(w:World)(m r:Nat)(kvs left:List (Value×Value)):Prop:=
 ∃es clock since seen c0,w.heap[m]? = some (.map es clock)∧Stamped es clock∧es.toList.map kv=kvs∧w.heap[r]? = some (.mapIter (some m) since seen c0)∧(∀x∈es.toList,x.born<since)∧since≤c0∧since≤clock∧(leftOf es seen).toList.map kv=left
theorem aAx.range(h:aAx w m kvs)(ht:P.underlying t=some (.map k e)):∃w',(Instr.range t (.map (some m))).run P w=.ok (.pointer (some ⟨w.heap.size,0,none⟩)) w'∧Ranging w' m w.heap.size kvs kvs∧Below w.heap.size w w':=by
 have hlt:=h.lt;obtain⟨es,clock,hb,F,hl⟩:=h;refine⟨_,run_range_map w t k e m es clock ht hb,⟨es,clock,clock,#[],clock,by rw[heap_alloc_old w _ hlt];exact hb,F,hl,heap_alloc_new w _,((stamped_iff es clock).1 F).1,Nat.le_refl _,Nat.le_refl _,?_⟩,yZ.alloc yL _⟩;rw[←hl];congr 1;unfold leftOf;simp
end
end Go.Proofs.YtaeocliklpcgmaaGreat
namespace Go.Proofs.YtaeocliklpcgmaaGreat
open Go.RowKit
theorem endsRow:(118:TypeId)<Tryz.prog.types.size:=of_decide_eq_true (by kernel_rfl)
theorem dumpLaid:laidOutB Tryz.prog=true:=by kernel_rfl
theorem endsLaw:Go.WideMaps.KeyLaw Tryz.prog 118:=deep_law_laid dumpLaid (m:=2) (by omega) endsRow (by kernel_rfl) (by rw[Tryz.underlying118])
def aDo(a b c:Int):Value:=.agg #[.int .u8 a,.int .u8 b,.int .u8 c]
def amtV(l d:Int):Value:=.agg #[.int .i64 l,.int .i64 d]
def U8(n:Int):Prop:=0≤n∧n≤255
def aKw(v:Value):Prop:=∃a b c,v=aDo a b c∧U8 a∧U8 b∧U8 c
theorem endsV_inj{a b c a' b' c':Int}(h:aDo a b c=aDo a' b' c'):a=a'∧b=b'∧c=c':=by
 unfold aDo at h;simp at h;exact h
theorem aGe{P:Program}{t:TypeId}(ht:P.underlying t=some (.int .u8))(n:Nat)(a:Int)(w:(Lit.int .u8 a).wf=true):P.keyLits (n+1) t [.int .u8 a]=some [.int .u8 a]:=by
 unfold Program.keyLits;rw[ht];simp[w]
theorem u8_wf{a:Int}(h:U8 a):(Lit.int .u8 a).wf=true:=by
 obtain⟨a1,a2⟩:=h;simp[Lit.wf,IntKind.min,IntKind.max,IntKind.signed,IntKind.bits];omega
theorem aKx(n:Nat)(a b c:Int)(wa:(Lit.int .u8 a).wf=true)(wb:(Lit.int .u8 b).wf=true)(wc:(Lit.int .u8 c).wf=true):Tryz.prog.keyLits (n+1+1) 118 [.int .u8 a,.int .u8 b,.int .u8 c]=some [.int .u8 a,.int .u8 b,.int .u8 c]:=by
 have hs:Tryz.prog.cellsOf 118=3:=by kernel_rfl
 have h1:Tryz.prog.cellsOf 43=1:=by kernel_rfl
 have h2:Tryz.prog.cellsOf 44=1:=by kernel_rfl
 have l1:=aGe Tryz.underlying43 n a wa;have l2:=aGe Tryz.underlying43 n b wb;have l3:=aGe Tryz.underlying44 n c wc;have hu:=Tryz.underlying118;rw[Program.keyLits.eq_def];dsimp only;rw[hu];dsimp only;generalize Tryz.prog=P at *;simp[hs,h1,h2,l1,l2,l3]
theorem ends_keyOf(a b c:Int)(ha:U8 a)(hb:U8 b)(hc:U8 c):∃l,keyOf Tryz.prog 118 (aDo a b c)=some l:=by
 have hk:Tryz.prog.keyType 118=true:=by kernel_rfl
 have hs:Tryz.prog.cellsOf 118=3:=by kernel_rfl
 obtain⟨n,hn⟩:∃n,Tryz.prog.types.size+1=n+1+1:=by
  have h0:0<Tryz.prog.types.size:=Nat.lt_of_le_of_lt (Nat.zero_le _) endsRow;exact⟨Tryz.prog.types.size - 1,by omega⟩
 have hl:=aKx n a b c (u8_wf ha) (u8_wf hb) (u8_wf hc);have hu:=Tryz.underlying118;have hf:(aDo a b c).formed Tryz.prog 118=true:=by simp[Value.formed,aDo,hu,hs]
 refine⟨.string (keyBytes [.int .u8 a,.int .u8 b,.int .u8 c]),?_⟩;unfold keyOf;rw[hu];dsimp only;rw[hk,hf,hn,show(aDo a b c).cells.toList=[.int .u8 a,.int .u8 b,.int .u8 c]from rfl,hl];rfl
theorem aIz:aKv Tryz.prog 118 aKw:=pAK (Go.Maps.Keyed.of_law endsLaw) fun v ⟨a,b,c,e,ha,hb,hc⟩=>by subst e;exact ends_keyOf a b c ha hb hc
theorem zeroAmt(w:World):(zeroValue 120).run Tryz.prog w=.ok (amtV 0 0) w:=by kernel_rfl
theorem In8.u8{n:Int}(h:In8 n):U8 n:=h
def lnKV(x:Ln):Value×Value:=(aDo x.cr x.de x.cu,amtV x.li x.db)
def aB1(w:World)(m:Nat)(ls:List Ln):Prop:=∃ms:List Ln,aAx w m (ms.map lnKV)∧ms.Perm ls
theorem aB1.lt{w:World}{m:Nat}{ls:List Ln}(h:aB1 w m ls):m<w.heap.size:=by obtain⟨ms,h1,_⟩:=h;exact h1.lt
theorem aB1.keep{S:Nat→Prop}{w w':World}{m:Nat}{ls:List Ln}(h:aB1 w m ls)(k:Keep S w w')(hs:¬S m):aB1 w' m ls:=by obtain⟨ms,h1,h2⟩:=h;exact⟨ms,h1.keep k hs,h2⟩
theorem aB1.below{w w':World}{B m:Nat}{ls:List Ln}(h:aB1 w m ls)(k:Below B w w')(hm:m<B):aB1 w' m ls:=by obtain⟨ms,h1,h2⟩:=h;exact⟨ms,h1.below k hm,h2⟩
theorem aB1.ne_blk{w:World}{m g:Nat}{ls:List Ln}{cs:Array Value}{t:TypeId}(h:aB1 w m ls)(b:Blk w g cs t):m≠g:=by obtain⟨ms,h1,_⟩:=h;exact h1.ne_blk b
theorem aB1.made(w:World):aB1 (w.alloc (.map #[] 0)) w.heap.size []:=⟨[],aAx.made w,List.Perm.refl _⟩
section
variable{w:World}{m:Nat}{ls:List Ln}
theorem aEz{ms:List Ln}(hp:ms.Perm ls)(hI:Inv ls):∀p∈ms.map lnKV,aKw p.1:=by
 intro p hp';obtain⟨x,hx,rfl⟩:=List.mem_map.1 hp';have hf:=(hI.good x (hp.mem_iff.1 hx)).fits;exact⟨_,_,_,rfl,hf.cr,hf.de,hf.cu⟩
theorem kvs_no{ms:List Ln}(hp:ms.Perm ls){a b c:Int}(hl:aAl ls a b c=none):∀p∈ms.map lnKV,p.1≠aDo a b c:=by
 intro p hp' he;obtain⟨x,hx,rfl⟩:=List.mem_map.1 hp';obtain⟨e1,e2,e3⟩:=endsV_inj he;exact(aC6 a b c).1 hl x (hp.mem_iff.1 hx) ⟨e1,e2,e3⟩
theorem aB1.look(h:aB1 w m ls)(hI:Inv ls){a b c:Int}(ha:U8 a)(hb:U8 b)(hc:U8 c):
  (Instr.lookup 58 (.map (some m)) (aDo a b c) true).run Tryz.prog w=.ok (.tuple #[amtV (lnAt ls a b c).li (lnAt ls a b c).db,.bool (aAl ls a b c).isSome]) w∧
  (Instr.lookup 58 (.map (some m)) (aDo a b c) false).run Tryz.prog w=.ok (amtV (lnAt ls a b c).li (lnAt ls a b c).db) w:=by
 obtain⟨ms,h1,hp⟩:=h;have hk:aKw (aDo a b c):=⟨a,b,c,rfl,ha,hb,hc⟩
 cases hl:aAl ls a b c with
 | none=>
  rw[aAs hl];have q:=fun o=>h1.look_none aIz (aEz hp hI) Tryz.underlying58 (zeroAmt w) hk (kvs_no hp hl) o
  exact⟨q true,q false⟩
 | some x=>
  rw[aAr hl];obtain⟨hm,e1,e2,e3⟩:=aAo hl;have hin:(aDo a b c,amtV x.li x.db)∈ms.map lnKV:=List.mem_map.2 ⟨x,hp.mem_iff.2 hm,by unfold lnKV;rw[e1,e2,e3]⟩;have q:=fun o=>h1.look_some aIz (aEz hp hI) Tryz.underlying58 hk hin o
  exact⟨q true,q false⟩
theorem aB1.len(h:aB1 w m ls)(ty:TypeId):(Builtin.len_ #[58] ty #[.map (some m)]).run Tryz.prog w=.ok (.int .i64 ls.length) w:=by
 obtain⟨ms,h1,hp⟩:=h;have:=h1.len (P:=Tryz.prog) Tryz.underlying58 ty
 rwa [List.length_map,hp.length_eq]at this
theorem eqL_some(hI:Inv ls){x:Ln}(hx:x∈ls):eqL x.rank ls=[x]:=by
 have hmem:x∈eqL x.rank ls:=by unfold eqL;exact List.mem_filter.2 ⟨hx,by simp⟩
 have hp:(eqL x.rank ls).Pairwise fun x y=>x.rank<y.rank:=by unfold eqL;exact List.Pairwise.filter _ hI.sorted
 have hall:∀z∈eqL x.rank ls,z.rank=x.rank:=fun z hz=>by unfold eqL at hz;simpa using(List.mem_filter.1 hz).2
 generalize eqL x.rank ls=B at *
 match B,hmem,hp,hall with
 | [z],hmem,_,_=>rw[List.mem_singleton]at hmem;subst hmem;rfl
 | z::u::r,_,hp,hall=>
  have a1:=hall z (by simp);have a2:=hall u (by simp);have a3:=(List.pairwise_cons.1 hp).1 u (by simp);omega
theorem eqL_none(hI:Inv ls){x:Ln}(hf:x.Fits)(hl:aAl ls x.cr x.de x.cu=none):eqL x.rank ls=[]:=by
 unfold eqL;rw[List.filter_eq_nil_iff];intro y hy;have h1:=(aC6 (ls:=ls) x.cr x.de x.cu).1 hl y hy;intro hr;exact h1 (aHg (hI.good y hy).fits hf (by simpa using hr))
theorem aB1.store(h:aB1 w m ls)(hI:Inv ls){x:Ln}(hf:x.Fits)(h0:x.li≠0):
  ∃w',(Instr.mapUpdate 58 (.map (some m)) (aDo x.cr x.de x.cu) (amtV x.li x.db)).run Tryz.prog w=.ok () w'∧aB1 w' m (setL ls x)∧aDe m w w':=by
 obtain⟨ms,h1,hp⟩:=h;have hk:aKw (aDo x.cr x.de x.cu):=⟨_,_,_,rfl,hf.cr,hf.de,hf.cu⟩;have hset:=aFf hI.sorted x;have hsp:=aBj x.rank ls hI.sorted;rw[if_neg h0]at hset
 cases hl:aAl ls x.cr x.de x.cu with
 | none=>
  rw[eqL_none hI hf hl,List.nil_append]at hsp;obtain⟨w',hr,hm,ht⟩:=h1.store_new (v:=amtV x.li x.db) aIz (aEz hp hI) Tryz.underlying58 hk (kvs_no hp hl);refine⟨w',hr,⟨ms++[x],by rw[List.map_append];exact hm,?_⟩,ht⟩;rw[hset];refine(List.perm_append_singleton x ms).trans ((hp.cons x).trans ?_)
  conv=>lhs;rw[hsp]
  exact List.perm_middle.symm
 | some y=>
  obtain⟨hm,e1,e2,e3⟩:=aAo hl;have hr0:y.rank=x.rank:=aGb e1 e2 e3;have heq:=eqL_some hI hm;rw[hr0]at heq;rw[heq]at hsp;obtain⟨A,B,hAB⟩:=List.append_of_mem (hp.mem_iff.2 hm);subst hAB;obtain⟨w',hr,hmm,ht⟩:=h1.store_old (A:=A.map lnKV) (B:=B.map lnKV) (u:=amtV y.li y.db) (v:=amtV x.li x.db) aIz (aEz hp hI) Tryz.underlying58 hk (by rw[List.map_append,List.map_cons,show lnKV y=(aDo x.cr x.de x.cu,amtV y.li y.db) by unfold lnKV;rw[e1,e2,e3]]);refine⟨w',hr,⟨A++x::B,by rw[List.map_append,List.map_cons];exact hmm,?_⟩,ht⟩;rw[hset]
  have hp2:(y::(A++B)).Perm (y::(loL x.rank ls++hiL x.rank ls)):=by
   refine List.perm_middle.symm.trans (hp.trans ?_)
   conv=>lhs;rw[hsp]
   exact List.perm_middle
  exact List.perm_middle.trans ((hp2.cons_inv.cons x).trans List.perm_middle.symm)
theorem aB1.drop(h:aB1 w m ls)(hI:Inv ls)(ty:TypeId){x:Ln}(hf:x.Fits)(h0:x.li=0):
  ∃w',(Builtin.delete_ #[58,118] ty #[.map (some m),aDo x.cr x.de x.cu]).run Tryz.prog w=.ok (.tuple #[]) w'∧aB1 w' m (setL ls x)∧aDe m w w':=by
 obtain⟨ms,h1,hp⟩:=h;have hk:aKw (aDo x.cr x.de x.cu):=⟨_,_,_,rfl,hf.cr,hf.de,hf.cu⟩;have hset:=aFf hI.sorted x;have hsp:=aBj x.rank ls hI.sorted;rw[if_pos h0,List.nil_append]at hset
 cases hl:aAl ls x.cr x.de x.cu with
 | none=>
  rw[eqL_none hI hf hl,List.nil_append]at hsp;obtain⟨w',hr,hm,ht⟩:=h1.drop_none aIz (aEz hp hI) Tryz.underlying58 ty hk (kvs_no hp hl);exact⟨w',hr,⟨ms,hm,by rw[hset,←hsp];exact hp⟩,ht⟩
 | some y=>
  obtain⟨hm,e1,e2,e3⟩:=aAo hl;have hr0:y.rank=x.rank:=aGb e1 e2 e3;have heq:=eqL_some hI hm;rw[hr0]at heq;rw[heq]at hsp;obtain⟨A,B,hAB⟩:=List.append_of_mem (hp.mem_iff.2 hm);subst hAB;obtain⟨w',hr,hmm,ht⟩:=h1.drop (A:=A.map lnKV) (B:=B.map lnKV) (u:=amtV y.li y.db) aIz (aEz hp hI) Tryz.underlying58 ty hk (by rw[List.map_append,List.map_cons,show lnKV y=(aDo x.cr x.de x.cu,amtV y.li y.db) by unfold lnKV;rw[e1,e2,e3]]);refine⟨w',hr,⟨A++B,by rw[List.map_append];exact hmm,?_⟩,ht⟩;rw[hset]
  have hp2:(y::(A++B)).Perm (y::(loL x.rank ls++hiL x.rank ls)):=by
   refine List.perm_middle.symm.trans (hp.trans ?_)
   conv=>lhs;rw[hsp]
   exact List.perm_middle
  exact hp2.cons_inv
def RangeIs(w:World)(m r:Nat)(ls done:List Ln):Prop:=
 ∃ms left:List Ln,Ranging w m r (ms.map lnKV) (left.map lnKV)∧ms.Perm ls∧(done++left).Perm ls
theorem aB1.range(h:aB1 w m ls):∃w',(Instr.range 58 (.map (some m))).run Tryz.prog w=.ok (.pointer (some ⟨w.heap.size,0,none⟩)) w'∧RangeIs w' m w.heap.size ls []∧Below w.heap.size w w':=by
 obtain⟨ms,h1,hp⟩:=h;obtain⟨w',a,b,c⟩:=h1.range (P:=Tryz.prog) Tryz.underlying58;exact⟨w',a,⟨ms,ms,b,hp,hp⟩,c⟩
end
end Go.Proofs.YtaeocliklpcgmaaGreat
