/-
  Pieces of one proof, without what is not wanted: Lays, Ref08, AppOne, BitArr, Grd, Rowed, Ref03, Bfs, LeastMath, PGrE, Ref06, PathsLeast, Ref06r.
-/
import Derived.Test.YtlbjjkbppbmihaaGreatL01
import Derived.Test.YtlbjjkbppbmihaaGreatL02
import Derived.Test.YtlbjjkbppbmihaaGreatL03
import Derived.Test.YtlbjjkbppbmihaaGreatL04
import Derived.Laws.Tables
import Derived.Laws.CopyOwn
import Derived.BigQuiet
import Derived.Laws.AppendOwnNone
import Derived.Laws.Rows
import Derived.Deep.MidRow
import Derived.Deep.WholeRow
set_option linter.unusedSimpArgs false
set_option linter.unusedVariables false
namespace Go.Proofs.YtlbjjkbppbmihaaGreat
open Go.RowKit
structure Spec where
 p:Nat
 q:Nat
 zero:Obj
 full:Obj
def upd (g:Nat→Nat) (p a:Nat):Nat→Nat:=fun i=>if i=p then a else g i
theorem upd_same (g:Nat→Nat) (p a:Nat):upd g p a p=a:=by simp [upd]
theorem upd_other (g:Nat→Nat) {p i:Nat} (a:Nat) (h:i≠p):upd g p a i=g i:=by simp [upd,h]
def SpecOk (W w:World) (g:Nat→Nat) (D:Nat→Bool) (s:Spec):Prop :=
 D s.p=true→W.heap.size≤g s.p∧w.heap[g s.p]? = some (if D s.q then s.full else s.zero)
def specsApart (bs:List Spec):Bool:=bs.all fun s=>bs.all fun s'=>s.p==s'.p || (s.p != s'.q && s.q != s'.p && s.q != s'.q)
structure Lays (W:World) (bs:List Spec) (g:Nat→Nat) (D:Nat→Bool) (w:World):Prop where
 below:Below W.heap.size W w
 ok:∀ s ∈ bs,SpecOk W w g D s
 apart:∀ s ∈ bs,∀ s' ∈ bs,D s.p=true→D s'.p=true→s.p≠s'.p→g s.p≠g s'.p
theorem Lays.start (W:World) (bs:List Spec) (g:Nat→Nat):Lays W bs g (fun _=>false) W.drew :=
 ⟨(Below.refl _ _).drew,fun s _ h=>by simp at h,fun s _ s' _ h=>by simp at h⟩
theorem ins_ne {k i:Nat} (D:Nat→Bool) (h:i≠k):ins k D i=D i:=by simp [ins,h]
theorem ins_same (k:Nat) (D:Nat→Bool):ins k D k=true:=by simp [ins]
theorem Lays.step {W w w':World} {bs:List Spec} {g:Nat→Nat} {D:Nat→Bool} {k:Nat} (h:Lays W bs g D w) (hb:Below w.heap.size w w') (hk:bs.all (fun s=>s.p != k && s.q != k)=true):Lays W bs g (ins k D) w':=by
 obtain ⟨h1,h2,h3⟩:=h
 have hk':∀ s ∈ bs,s.p≠k∧s.q≠k:=fun s hs=>by
  have:=List.all_eq_true.1 hk s hs
  simpa using this
 refine ⟨h1.trans (hb.mono h1.size),fun s hs hd=>?_,fun s hs s' hs' hd hd' hne=>?_⟩
 ·rw [ins_ne D (hk' s hs).1] at hd
  obtain ⟨a,b⟩:=h2 s hs hd
  rw [ins_ne D (hk' s hs).2]
  exact ⟨a,by rw [hb.block _ (Array.getElem?_eq_some_iff.1 b).1]; exact b⟩
 ·rw [ins_ne D (hk' s hs).1] at hd
  rw [ins_ne D (hk' s' hs').1] at hd'
  exact h3 s hs s' hs' hd hd' hne
theorem Lays.lay {W w:World} {bs:List Spec} {g:Nat→Nat} {D:Nat→Bool} (h:Lays W bs g D w) (s:Spec) (hs:s ∈ bs) (ha:specsApart bs=true) (hq:s.q=s.p∨D s.q=false) (hone:bs.all (fun s'=>s'.p != s.p || s'.q==s.q)=true)
  (hsame:∀ s' ∈ bs,s'.p=s.p→s'=s) (o:Obj) (ho:o=if s.q=s.p then s.full else s.zero):Lays W bs (upd g s.p w.heap.size) (ins s.p D) (w.alloc o):=by
 obtain ⟨h1,h2,h3⟩:=h
 have hap:∀ s' ∈ bs,s'.p≠s.p→s'.q≠s.p:=fun s' hs' hne=>by
  have:=List.all_eq_true.1 (List.all_eq_true.1 ha s' hs') s hs
  simp only [Bool.or_eq_true,beq_iff_eq,Bool.and_eq_true,bne_iff_ne,ne_eq] at this
  rcases this with e | e
  ·exact absurd e hne
  ·exact e.1.2
 refine ⟨h1.alloc h1.size _,fun s' hs' hd=>?_,fun s1 hs1 s2 hs2 hd1 hd2 hne=>?_⟩
 ·by_cases he:s'.p=s.p
  ·have:=hsame s' hs' he
   subst this
   rw [upd_same]
   refine ⟨h1.size,?_⟩
   have e1:(w.alloc o).heap[w.heap.size]? = some o:=by show (w.heap.push _)[w.heap.size]? = _; simp
   rw [e1,ho]
   by_cases hqp:s'.q=s'.p
   ·rw [if_pos hqp,hqp,ins_same]; rfl
   ·rw [if_neg hqp,ins_ne D hqp]
    rcases hq with e | e
    ·exact absurd e hqp
    ·rw [e]; rfl
  ·rw [ins_ne D he] at hd
   obtain ⟨a,b⟩:=h2 s' hs' hd
   rw [upd_other g _ he,ins_ne D (hap s' hs' he)]
   exact ⟨a,by rw [Below.heap_alloc _ _ _ (Array.getElem?_eq_some_iff.1 b).1]; exact b⟩
 ·have lt:∀ s' ∈ bs,s'.p≠s.p→ins s.p D s'.p=true→g s'.p<w.heap.size:=fun s' hs' he hd=>by
   rw [ins_ne D he] at hd
   exact (Array.getElem?_eq_some_iff.1 (h2 s' hs' hd).2).1
  by_cases e1:s1.p=s.p
  ·by_cases e2:s2.p=s.p
   ·exact absurd (e1.trans e2.symm) hne
   ·have:=lt s2 hs2 e2 hd2
    rw [e1,upd_same,upd_other g _ e2]
    omega
  ·by_cases e2:s2.p=s.p
   ·have:=lt s1 hs1 e1 hd1
    rw [e2,upd_same,upd_other g _ e1]
    omega
   ·rw [upd_other g _ e1,upd_other g _ e2]
    rw [ins_ne D e1] at hd1
    rw [ins_ne D e2] at hd2
    exact h3 s1 hs1 s2 hs2 hd1 hd2 hne
theorem Lays.fill {W w w':World} {bs:List Spec} {g:Nat→Nat} {D:Nat→Bool} (h:Lays W bs g D w) (s:Spec) (hs:s ∈ bs) (ha:specsApart bs=true) (hqp:s.q≠s.p) (hsame:∀ s' ∈ bs,s'.p=s.p→s'=s) (hd:D s.p=true)
  (hk:Keep (·=g s.p) w w') (hf:w'.heap[g s.p]? = some s.full):Lays W bs g (ins s.q D) w':=by
 obtain ⟨h1,h2,h3⟩:=h
 have hg:=(h2 s hs hd).1
 have hap:∀ s' ∈ bs,s'.p≠s.p→s'.q≠s.q∧s'.p≠s.q:=fun s' hs' hne=>by
  have:=List.all_eq_true.1 (List.all_eq_true.1 ha s' hs') s hs
  simp only [Bool.or_eq_true,beq_iff_eq,Bool.and_eq_true,bne_iff_ne,ne_eq] at this
  rcases this with e | e
  ·exact absurd e hne
  ·exact ⟨e.2,e.1.1⟩
 refine ⟨⟨hk.os.trans h1.os,hk.tape.trans h1.tape,hk.output.trans h1.output,Nat.le_trans h1.size hk.size,fun i hi=>by rw [hk.block i (Nat.lt_of_lt_of_le hi h1.size) (by omega)]; exact h1.block i hi⟩,fun s' hs' hd'=>?_,fun s1 hs1 s2 hs2 hd1 hd2 hne=>?_⟩
 ·by_cases he:s'.p=s.p
  ·have:=hsame s' hs' he
   subst this
   rw [ins_same]
   exact ⟨hg,hf⟩
  ·rw [ins_ne D (hap s' hs' he).2] at hd'
   obtain ⟨a,b⟩:=h2 s' hs' hd'
   rw [ins_ne D (hap s' hs' he).1]
   exact ⟨a,by rw [hk.block _ (Array.getElem?_eq_some_iff.1 b).1 (h3 s' hs' s hs hd' hd he)]; exact b⟩
 ·have pn:∀ s' ∈ bs,s'.p≠s.q:=fun s' hs'=>by
   by_cases he:s'.p=s.p
   ·rw [he]; exact fun e=>hqp e.symm
   ·exact (hap s' hs' he).2
  rw [ins_ne D (pn s1 hs1)] at hd1
  rw [ins_ne D (pn s2 hs2)] at hd2
  exact h3 s1 hs1 s2 hs2 hd1 hd2 hne
theorem Lays.full {W w:World} {bs:List Spec} {g:Nat→Nat} {D:Nat→Bool} (h:Lays W bs g D w) (s:Spec) (hs:s ∈ bs) (hp:D s.p=true) (hq:D s.q=true):W.heap.size≤g s.p∧w.heap[g s.p]? = some s.full:=by
 obtain ⟨a,b⟩:=h.ok s hs hp
 rw [hq] at b
 exact ⟨a,b⟩
theorem Lays.zeroed {W w:World} {bs:List Spec} {g:Nat→Nat} {D:Nat→Bool} (h:Lays W bs g D w) (s:Spec) (hs:s ∈ bs) (hp:D s.p=true) (hq:D s.q=false):W.heap.size≤g s.p∧w.heap[g s.p]? = some s.zero:=by
 obtain ⟨a,b⟩:=h.ok s hs hp
 rw [hq] at b
 exact ⟨a,b⟩
def waitsFor (ops:Array Oper):Nat→Nat→Nat→Bool
 | 0,_,_=>false
 | d + 1,i,j=>match ops[i]? with
  | some o=>o.after.any fun e=>Region.binds .any e && (e.on==j || waitsFor ops d e.on j)
  | none=>false
theorem waits_not {ops:Array Oper} {D:Nat→Bool} (hC:Closed ops D) {j:Nat} (hj:D j=false):∀ (d i:Nat),waitsFor ops d i j=true→D i=false
 | 0,i,h=>by simp [waitsFor] at h
 | d + 1,i,h=>by
  unfold waitsFor at h
  split at h
  ·rename_i o ho
   obtain ⟨e,he,hb⟩:=Array.any_eq_true'.1 h
   simp only [Bool.and_eq_true,Bool.or_eq_true,beq_iff_eq] at hb
   by_cases hi:D i=true
   ·exfalso
    have hw:=hC i o ho hi e he hb.1
    rcases hb.2 with h2 | h2
    ·rw [h2,hj] at hw; cases hw
    ·rw [waits_not hC hj d e.on h2] at hw; cases hw
   ·simpa using hi
  ·cases h
theorem waited_done {ops:Array Oper} {D:Nat→Bool} (hC:Closed ops D) {o:Oper} (hw:Waited D o) {d j:Nat} (h:(o.after.any fun e=>Region.binds .any e && (e.on==j || waitsFor ops d e.on j))=true):D j=true:=by
 obtain ⟨e,he,hb⟩:=Array.any_eq_true'.1 h
 simp only [Bool.and_eq_true,Bool.or_eq_true,beq_iff_eq] at hb
 have h1:=hw e he hb.1
 rcases hb.2 with h2 | h2
 ·rw [← h2]; exact h1
 ·by_cases hj:D j=true
  ·exact hj
  ·rw [waits_not hC (by simpa using hj) d e.on h2] at h1; cases h1
theorem vals_upd {n:Nat} (ops:Array Oper) (vals:(Nat→Nat)→List Value) (g:Nat→Nat) (p a d:Nat) {D:Nat→Bool} (hC:Closed ops D) (hp:D p=false)
  (h:∀ j,j<n→(j=p∨waitsFor ops d j p=true)∨(vals g).getD j undef=(vals (upd g p a)).getD j undef):∀ j,j<n→D j=true→(vals g).getD j undef=(vals (upd g p a)).getD j undef:=by
 intro j hj hD
 rcases h j hj with (rfl | h) | h
 ·rw [hp] at hD; cases hD
 ·rw [waits_not hC hp d j h] at hD; cases hD
 ·exact h
theorem below_keepRow {w:World} (g:Nat) (cs:Array Value):Keep (·=g) w (w.setRow g cs) :=
 ⟨rfl,rfl,rfl,by simp [World.setRow],fun k _ hk=>setRow_other w g k cs (fun e=>hk e)⟩
section
variable {P:Program} {ops:Array Oper} {Q:Exit→Act→World→Prop} {a:Act}
theorem region_end {id:Nat} {w:World} (hm:P.follows .mixedOrders=true) (n d:Nat) (vals:List Value) (S:World→Prop) (hok:regionOk ops=true) (hsz:ops.size=n + 1)
  (hlast:(List.range n).all (fun j=>waitsFor ops d n j)=true) (h0:S w.drew)
  (h:∀ af,puts (fun i=>vals.getD i undef) 0 ops.toList a=af→EachTo P ops af S (ops.toList.take n)∧∀ w',S w'→OpTo P ops af (ops.toList.getD n default) w' (fun w''=>Q .normal af w'')) :
  (Code.region id ops true).wp P Q a w:=by
 obtain ⟨h1,h2⟩:=h _ rfl
 refine wp_region_any hm ?_
 have haf':frOf ops (fun i=>vals.getD i undef) (fun _=>true) a=puts (fun i=>vals.getD i undef) 0 ops.toList a:=frOf_puts hok
 have hfr:=frOf_none ops (fun i=>vals.getD i undef) a
 have hz:(fun i=>(Array.replicate ops.size false).getD i false)=fun _=>false:=by
  funext i; simp [Array.getD_eq_getD_getElem?,Array.getElem?_replicate]; split <;> rfl
 have key:=region_any (P:=P) (Q:=Q) (val:=fun i=>vals.getD i undef) (a:=a) (I:=fun D w'=>if D n=true then Q .normal (puts (fun i=>vals.getD i undef) 0 ops.toList a) w' else S w') hm hok
  (fun i o ho D w' hDi hw hc hI=>by
   rw [haf']
   have hi:i<ops.size:=by
    rcases Nat.lt_or_ge i ops.size with h' | h'
    ·exact h'
    ·simp [Array.getElem?_eq_none h'] at ho
   by_cases hin:i=n
   ·subst hin
    rw [hDi] at hI
    simp only [ins,beq_self_eq_true,Bool.true_or,if_true]
    have h3:=h2 w' hI
    rwa [List.getD_eq_getElem?_getD,Array.getElem?_toList,ho] at h3
   ·have hDn:D n=false:=waits_not hc hDi d n (List.all_eq_true.1 hlast i (by simp; omega))
    rw [hDn] at hI
    have:(ins i D) n=false:=by simp [ins,hDn]; omega
    simp only [this]
    exact h1.at (i:=i) (by rw [List.getElem?_take]; simp [show i<n by omega,ho]) w' hI)
  (fun D w' hall hI=>by
   rw [haf']
   rwa [if_pos (hall n (by omega))] at hI)
  ops.size (Array.replicate ops.size false) w.drew (by simp) (by simp) (fun j o ho hj=>by
   simp [Array.getD_eq_getD_getElem?,Array.getElem?_replicate] at hj
   split at hj <;> simp at hj) (by
   have:(Array.replicate ops.size false).getD n false=false:=by simp [Array.getD_eq_getD_getElem?,Array.getElem?_replicate]; split <;> rfl
   show if (Array.replicate ops.size false).getD n false=true then _ else S w.drew
   rw [this]
   exact h0)
 rw [hz,hfr] at key
 exact key
end
theorem wp_mapUpdate_of {P:Program} {w w':World} {o:Oper} {a:Act} {K:Act→World→Prop} {Q:Exit→Act→World→Prop} (t:TypeId) (m x v:Operand) (ho:o.op=.mapUpdate t m x v) {mv xv vv:Value}
  (hm:a.eval m=mv) (hx:a.eval x=xv) (hv:a.eval v=vv) (hr:(Instr.mapUpdate t mv xv vv).run P w=.ok () w') (h:K (a.put o.dst undef) w'):o.wp P a w K Q:=by
 unfold Oper.wp
 simp only [execOp,ho,hm,hx,hv,Sem.run_bind,hr,Result.andThen_ok]
 exact h
theorem wp_delete_of {P:Program} {w w':World} {o:Oper} {a:Act} {K:Act→World→Prop} {Q:Exit→Act→World→Prop} (m x:Operand) (t k:TypeId) {mv xv:Value}
  (ho:o.op=.call { callee:=.builtin .delete,args:=#[m,x],argTypes:=#[t,k] }) (hm:a.eval m=mv) (hx:a.eval x=xv)
  (hr:(Builtin.delete_ #[t,k] o.type #[mv,xv]).run P w=.ok (.tuple #[]) w') (h:K (a.put o.dst (.tuple #[])) w'):o.wp P a w K Q:=by
 unfold Oper.wp execOp
 simp only [ho,resolve,invoke,builtin,Sem.run_bind,Sem.run_pure,Result.andThen_ok,List.map_toArray,List.map_cons,List.map_nil,hm,hx,hr]
 exact h
end Go.Proofs.YtlbjjkbppbmihaaGreat
namespace Go.Proofs.YtlbjjkbppbmihaaGreat
open Go.RowKit
theorem dbt_get {l:List Fw} {i:Nat} (h:i<l.length):dbt l i=l[i]:=by unfold dbt; simp [h]
def DebtsIn (w:World) (ao:Option Addr) (l:List Fw):Prop :=
 0<l.length→∃ b off,ao=some ⟨b,off,none⟩∧b<w.heap.size∧∀ m,m<l.length→w.cell? ⟨b,off + m * 3,none⟩=some (.int .u8 (dbt l m).fr)∧w.cell? ⟨b,off + m * 3 + 1,none⟩=some (.int .u8 (dbt l m).tt)∧w.cell? ⟨b,off + m * 3 + 2,none⟩=some (.int .i64 (dbt l m).am)
theorem reads_debts {w:World} {ao:Option Addr} {cap:Nat} {l:List Fw} (h:Reads w (.slice ao l.length cap) 3 l.length (fwCells l)):DebtsIn w ao l:=by
 obtain ⟨ao',cap',hv,_,_,hcell⟩:=h
 cases hv
 intro h0
 obtain ⟨b,off,h1,h2,h3⟩:=hcell h0
 refine ⟨b,off,h1,h2,fun m hm=>?_⟩
 rw [dbt_get hm]
 refine ⟨?_,?_,?_⟩
 ·have:=h3 (m * 3 + 0) (by omega)
  rw [fwCells_get l m 0 (by omega) hm,show off + (m * 3 + 0)=off + m * 3 by omega] at this
  exact this
 ·have:=h3 (m * 3 + 1) (by omega)
  rw [fwCells_get l m 1 (by omega) hm,show off + (m * 3 + 1)=off + m * 3 + 1 by omega] at this
  exact this
 ·have:=h3 (m * 3 + 2) (by omega)
  rw [fwCells_get l m 2 (by omega) hm,show off + (m * 3 + 2)=off + m * 3 + 2 by omega] at this
  exact this
theorem DebtsIn.below {w w':World} {ao:Option Addr} {l:List Fw} (h:DebtsIn w ao l) (hb:Below w.heap.size w w'):DebtsIn w' ao l:=by
 intro h0
 obtain ⟨b,off,h1,h2,h3⟩:=h h0
 refine ⟨b,off,h1,Nat.lt_of_lt_of_le h2 hb.size,fun m hm=>?_⟩
 obtain ⟨a1,a2,a3⟩:=h3 m hm
 exact ⟨(hb.cell (p:=⟨b,off + m * 3,none⟩) h2).trans a1,(hb.cell (p:=⟨b,off + m * 3 + 1,none⟩) h2).trans a2,(hb.cell (p:=⟨b,off + m * 3 + 2,none⟩) h2).trans a3⟩
def DebtsFit (l:List Fw):Prop:=∀ m,m<l.length→(0≤(dbt l m).fr∧(dbt l m).fr≤255)∧(0≤(dbt l m).tt∧(dbt l m).tt≤255) ∧ -9223372036854775808≤(dbt l m).am∧(dbt l m).am≤9223372036854775807
theorem mayN_next (l:List Fw) (k:Nat):mayN l (k + 1)=(mayN l k && decide (okD (dbt l k)) && (decide (k=0) || decide (keyD (dbt l (k - 1))<keyD (dbt l k)))):=rfl
theorem mayN_less {l:List Fw}:∀ {n:Nat} (k:Nat),k≤n→mayN l k=false→mayN l n=false
 | 0,k,hk,h=>by
  have:k=0:=by omega
  subst this; exact h
 | n + 1,k,hk,h=>by
  by_cases hkn:k=n + 1
  ·subst hkn; exact h
  ·rw [mayN_next,mayN_less k (by omega) h]; rfl
end Go.Proofs.YtlbjjkbppbmihaaGreat
namespace Go.Proofs.YtlbjjkbppbmihaaGreat
open Go.RowKit
theorem wpList_append_one {P:Program} (w:World) {ops:Array Oper} {rest:List Oper} {o:Oper} {a:Act} {Q:Exit→Act→World→Prop} (hgd:o.guard=none) (s x:Operand) (t e:TypeId)
  (ho:o.op=.call { callee:=.builtin .append,args:=#[s,x],argTypes:=#[t,t] }) {z:Value} {sz by':Nat} (ht:P.underlying t=some (.slice e)) (hinf:(P.info? e).map (fun i=>(i.zero,i.size,i.bytes))=some (some z,sz,by')) (hzs:z.cells.size=sz) (h0:0<sz) (hby:by'≤1000)
  (base:Nat) (v:Value) (n:Nat) (xs:List Value) (hs:a.eval s=v) (hown:w.ownsRow base e sz v n xs) (g c:Nat) (vs:List Value) (hvs:vs.length=sz) (hx:a.eval x=.slice (some ⟨g,0,none⟩) 1 c) (hy:Blk w g vs.toArray e) (h1:∀ u ∈ vs,u.oneCell'=true) (hlen:n≤100000) (hbase:base≤w.heap.size)
  (h:∀ v' w',w'.ownsRow base e sz v' (n + 1) (xs++vs)→w.grownBy w' v.ownBlock→wpList P ops Q rest (a.put o.dst v') w'):wpList P ops Q (o::rest) a w:=by
 obtain ⟨i0,hi,hz0,hz1,hz2⟩:=info_parts hinf
 refine wpList_append_own w hgd s x t ho base e i0 z sz by' ht hi hz0 hz1 hz2 hzs h0 v n xs hs hown ⟨g,0,none⟩ 1 c vs hx (by rw [hvs]; omega) ?_ h1 (by unfold maxLen; omega) ?_ hbase ?_
 ·intro j u hj
  rw [Go.WideShapes.add_plain,Nat.zero_add,hy.cell j]
  simpa using hj
 ·refine Nat.le_trans (Nat.mul_le_mul_left _ hby) ?_
  omega
 ·intro v' w' h2 h3 _
  exact h v' w' h2 h3
theorem below_ag {B:Nat} {w w1 w2:World} {o:Obj} {row:Option Nat} (h:Below B w w1) (hB:B≤w1.heap.size) (hg:(w1.alloc o).grownBy w2 row) (hr:∀ k,row=some k→B≤k):Below B w w2 :=
 (h.alloc hB o).grown hg (by simp; omega) hr
end Go.Proofs.YtlbjjkbppbmihaaGreat
namespace Go.Proofs.YtlbjjkbppbmihaaGreat
open Go.RowKit
theorem wpList_build_of {P:Program} {ops:Array Oper} {rest:List Oper} {o:Oper} {a:Act} {w:World} {Q:Exit→Act→World→Prop} (hgd:o.guard=none) (t:TypeId) (parts:Array (Nat × Operand)) (ho:o.op=.build t parts)
  (ps:Array (Nat × Value)) (hp:(parts.map fun (i,x)=>(i,a.eval x))=ps) (cells:Array Value) (hrun:(Instr.build t ps).run P w=.ok (.agg cells) w)
  (h:wpList P ops Q rest (a.put o.dst (.agg cells)) w):wpList P ops Q (o::rest) a w :=
 wpList_plain hgd fun _ hK=>by
  unfold Oper.wp execOp
  simp only [ho,hp,Sem.run_bind,hrun,Result.andThen_ok]
  exact hK _ _ h
theorem wp_build_of {P:Program} {o:Oper} {a:Act} {w:World} {K:Act→World→Prop} {Q:Exit→Act→World→Prop} (t:TypeId) (parts:Array (Nat × Operand)) (ho:o.op=.build t parts)
  (ps:Array (Nat × Value)) (hp:(parts.map fun (i,x)=>(i,a.eval x))=ps) (cells:Array Value) (hrun:(Instr.build t ps).run P w=.ok (.agg cells) w)
  (h:K (a.put o.dst (.agg cells)) w):o.wp P a w K Q:=by
 unfold Oper.wp execOp
 simp only [ho,hp,Sem.run_bind,hrun,Result.andThen_ok]
 exact h
theorem Blk.row {w:World} {g:Nat} {old cs:Array Value} {t:TypeId} (h:Blk w g old t):Blk (w.setRow g cs) g cs t:=setRow_heap w g old cs t (0,0) h
end Go.Proofs.YtlbjjkbppbmihaaGreat
namespace Go.Proofs.YtlbjjkbppbmihaaGreat
open Go.RowKit
def gridA (v:Int→Int→Value):Array Value:=Array.ofFn (n:=289) fun i=>v ((i.val / 17:Nat):Int) ((i.val % 17:Nat):Int)
theorem gridA_size (v:Int→Int→Value):(gridA v).size=289:=by simp [gridA]
theorem gridA_get (v:Int→Int→Value) {i:Nat} (h:i<289):(gridA v)[i]? = some (v ((i / 17:Nat):Int) ((i % 17:Nat):Int)):=by simp [gridA,h]
theorem gridA_at (v:Int→Int→Value) {p q:Nat} (hp:p<17) (hq:q<17):(gridA v)[p * 17 + q]? = some (v p q):=by
 rw [gridA_get _ (by omega),show (p * 17 + q) / 17=p by omega,show (p * 17 + q) % 17=q by omega]
theorem gridA_set (v:Int→Int→Value) {p q:Nat} (hp:p<17) (hq:q<17) (u:Value):(gridA v).setIfInBounds (p * 17 + q) u=gridA fun a b=>if a=p∧b=q then u else v a b:=by
 apply Array.ext_getElem?
 intro j
 by_cases hj:j<289
 ·rw [gridA_get _ hj]
  by_cases hi:p * 17 + q=j
  ·subst hi
   rw [Array.getElem?_setIfInBounds_self_of_lt (by rw [gridA_size]; omega),show (p * 17 + q) / 17=p by omega,show (p * 17 + q) % 17=q by omega,if_pos ⟨rfl,rfl⟩]
  ·rw [Array.getElem?_setIfInBounds_ne hi,gridA_get _ hj,if_neg]
   rintro ⟨e1,e2⟩
   omega
 ·rw [Array.getElem?_eq_none (by simp [gridA_size]; omega),Array.getElem?_eq_none (by rw [gridA_size]; omega)]
def rowA (v:Int→Int→Value) (p:Int):Array Value:=Array.ofFn (n:=17) fun i=>v p ((i.val:Nat):Int)
theorem rowA_size (v:Int→Int→Value) (p:Int):(rowA v p).size=17:=by simp [rowA]
theorem rowA_get (v:Int→Int→Value) (p:Int) {i:Nat} (h:i<17):(rowA v p)[i]? = some (v p i):=by simp [rowA,h]
def graC (f:Int→Int→Int) (b:Bool):Array Value:=Array.ofFn (n:=290) fun i=>if i.val=289 then .bool b else .int .i64 (f ((i.val / 17:Nat):Int) ((i.val % 17:Nat):Int))
theorem graC_get (f:Int→Int→Int) (b:Bool) {i:Nat} (h:i<289):(graC f b)[i]? = some (.int .i64 (f ((i / 17:Nat):Int) ((i % 17:Nat):Int))):=by
 have h1:i<290:=by omega
 have h2:i≠289:=by omega
 simp [graC,h1,h2]
theorem graC_at (f:Int→Int→Int) (b:Bool) {p q:Nat} (hp:p<17) (hq:q<17):(graC f b)[p * 17 + q]? = some (.int .i64 (f p q)):=by
 rw [graC_get _ _ (by omega),show (p * 17 + q) / 17=p by omega,show (p * 17 + q) % 17=q by omega]
def capA (f:Int→Int→Int):Array Value:=gridA fun p q=>.int .i64 (f p q)
theorem capA_size (f:Int→Int→Int):(capA f).size=289:=gridA_size _
theorem capA_get (f:Int→Int→Int) {i:Nat} (h:i<289):(capA f)[i]? = some (.int .i64 (f ((i / 17:Nat):Int) ((i % 17:Nat):Int))):=gridA_get _ h
theorem Blk.cap {w:World} {g:Nat} {f:Int→Int→Int} {b:Bool} {t:TypeId} (h:Blk w g (graC f b) t) {p q:Int} (h0:0≤p) (h1:p<17) (h2:0≤q) (h3:q<17):w.cell? ⟨g,p.toNat * 17 + q.toNat,none⟩=some (.int .i64 (f p q)):=by
 rw [h.cell,graC_at f b (by omega) (by omega),Int.toNat_of_nonneg h0,Int.toNat_of_nonneg h2]
attribute [irreducible] graC capA rowA gridA
end Go.Proofs.YtlbjjkbppbmihaaGreat
namespace Go.Proofs.YtlbjjkbppbmihaaGreat
open Go.RowKit
def mayG (p:Int):Bool:=decide (1≤p∧p≤16)
theorem mayG_true {p:Int} (h:inP p):mayG p=true:=by unfold mayG; unfold inP at h; simp; omega
theorem mayG_false {p:Int} (h:¬ inP p):mayG p=false:=by unfold mayG; unfold inP at h; simp; omega
end Go.Proofs.YtlbjjkbppbmihaaGreat
namespace Go.Proofs.YtlbjjkbppbmihaaGreat
open Go.RowKit
theorem rowed_shape {w:World} {base:Nat} {e:TypeId} {size:Nat} {v:Value} {n:Nat} {xs:List Value} (h:Rowed w base e size v n xs) :
  ∃ (ao:Option Addr),v=.slice ao n n∧(0<n→∃ g,ao=some ⟨g,0,none⟩∧base≤g∧g<w.heap.size∧∀ j,j<n * size→w.cell? ⟨g,j,none⟩=xs[j]?):=by
 obtain ⟨h1,h2⟩:=h
 rcases h2 with ⟨rfl,rfl⟩ | ⟨g,cur,rfl,hb,hg,h3,h4,h5⟩
 ·exact ⟨none,rfl,fun h=>absurd h (by omega)⟩
 ·refine ⟨some ⟨g,0,none⟩,rfl,fun _=>⟨g,rfl,hb,lt_of_block hg,fun j hj=>?_⟩⟩
  have:w.cell? ⟨g,j,none⟩=cur[j]? := by simp [World.cell?,hg]
  rw [this,← h5,List.getElem?_take_of_lt hj,Array.getElem?_toList]
theorem rowed_own {w:World} {base:Nat} {e:TypeId} {size:Nat} {v:Value} {n:Nat} {xs:List Value} (h:Rowed w base e size v n xs) {b:Nat} (hb:v.ownBlock=some b):base≤b∧b<w.heap.size:=by
 obtain ⟨_,h2⟩:=h
 rcases h2 with ⟨rfl,rfl⟩ | ⟨g,cur,rfl,h3,hg,_⟩
 ·cases hb
 ·cases hb
  exact ⟨h3,lt_of_block hg⟩
theorem Rowed.look {w:World} {base:Nat} {e:TypeId} {size:Nat} {v:Value} {n:Nat} {xs:List Value} (h:Rowed w base e size v n xs) :
  ∃ (ao:Option Addr) (cap:Nat),v=.slice ao n cap∧n≤cap∧cap≤maxLen∧xs.length=n * size∧(0<n→∃ b,ao=some ⟨b,0,none⟩∧base≤b∧b<w.heap.size∧(∀ j,j<n * size→w.cell? ⟨b,j,none⟩=xs[j]?)∧∀ j,w.frozen? ⟨b,j,none⟩=false):=by
 obtain ⟨h1,h2⟩:=h
 rcases h2 with ⟨rfl,rfl⟩ | ⟨g,cur,rfl,hb,hg,hm,hc,ht⟩
 ·exact ⟨none,0,rfl,Nat.le_refl _,by decide,h1,fun h=>absurd h (by omega)⟩
 ·have hB:Blk w g cur e:=hg
  refine ⟨some ⟨g,0,none⟩,n,rfl,Nat.le_refl _,hm,h1,fun _=>⟨g,rfl,hb,lt_of_block hg,fun j hj=>?_,fun j=>hB.frozen j⟩⟩
  rw [hB.cell,← ht,List.getElem?_take_of_lt hj,Array.getElem?_toList]
def RowPost (e:TypeId) (L:List Int) (w:World) (en:Ending) (w':World):Prop :=
 ∃ v,en=.returned v∧Rowed w' w.heap.size e 1 v L.length (L.map (.int .u8))∧Below w.heap.size w w'
end Go.Proofs.YtlbjjkbppbmihaaGreat
namespace Go.Proofs.YtlbjjkbppbmihaaGreat
open Go.RowKit
def RowA (w:World) (base:Nat) (e:TypeId) (size:Nat) (v:Value) (n:Nat) (xs:List Value):Prop :=
 xs.length=n * size∧((v=.slice none 0 0∧n=0)∨∃ g cap cur,v=.slice (some ⟨g,0,none⟩) n cap∧base≤g∧w.heap[g]? = some (.cells cur e (0,0))∧n≤cap∧cap≤maxLen∧cap * size≤cur.size∧cur.toList.take (n * size)=xs)
section
variable {w w':World} {base:Nat} {e:TypeId} {size:Nat} {v:Value} {n:Nat} {xs:List Value}
theorem RowA.type (h:RowA w base e size v n xs) {b:Nat} (hb:v.ownBlock=some b):base≤b∧b<w.heap.size∧∃ cur,w.heap[b]? = some (.cells cur e (0,0)):=by
 obtain ⟨_,h2⟩:=h
 rcases h2 with ⟨rfl,_⟩ | ⟨g,cap,cur,rfl,hge,hg,_⟩
 ·cases hb
 ·cases hb; exact ⟨hge,lt_of_block hg,cur,hg⟩
end
end Go.Proofs.YtlbjjkbppbmihaaGreat
namespace Go.Proofs.YtlbjjkbppbmihaaGreat
open Go.RowKit
end Go.Proofs.YtlbjjkbppbmihaaGreat
namespace Go.Proofs.YtlbjjkbppbmihaaGreat
open Go.RowKit
end Go.Proofs.YtlbjjkbppbmihaaGreat
namespace Go.Proofs.YtlbjjkbppbmihaaGreat
open Go.RowKit
theorem info_lineAll:(Tryz.prog.info? 72).map (fun i=>(i.zero,i.size,i.bytes))=some (some noLn.val,5,24):=by kernel_rfl
theorem wpList_append_line (w:World) {ops:Array Oper} {rest:List Oper} {o:Oper} {a:Act} {Q:Exit→Act→World→Prop} (hgd:o.guard=none) (s x:Operand)
  (ho:o.op=.call { callee:=.builtin .append,args:=#[s,x],argTypes:=#[54,54] }) (base:Nat) (v:Value) (ls:List Ln) (hs:a.eval s=v)
  (hown:w.ownsRow base 72 5 v ls.length (lnCells ls)) (g c:Nat) (y:Ln) (hx:a.eval x=.slice (some ⟨g,0,none⟩) 1 c) (hy:Blk w g #[.int .u8 y.cr,.int .u8 y.de,.int .u8 y.cu,.int .i64 y.li,.int .i64 y.db] 72) (hlen:ls.length≤100000) (hbase:base≤w.heap.size)
  (h:∀ v' w',w'.ownsRow base 72 5 v' (ls++[y]).length (lnCells (ls++[y]))→w.grownBy w' v.ownBlock→wpList Tryz.prog ops Q rest (a.put o.dst v') w'):wpList Tryz.prog ops Q (o::rest) a w:=by
 obtain ⟨i0,hi,hz0,hz1,hz2⟩:=info_parts info_lineAll
 refine wpList_append_own w hgd s x 54 ho base 72 i0 noLn.val 5 24 Tryz.underlying54 hi hz0 hz1 hz2 rfl (by decide) v ls.length (lnCells ls) hs hown ⟨g,0,none⟩ 1 c y.vals hx rfl ?_ ?_ (by unfold maxLen; omega) (by omega) hbase ?_
 ·intro j u hj
  have:=hy.cell j
  rw [Go.WideShapes.add_plain]
  match j,hj with
  | 0,hj=>simp [Ln.vals] at hj; subst hj; simpa using this
  | 1,hj=>simp [Ln.vals] at hj; subst hj; simpa using this
  | 2,hj=>simp [Ln.vals] at hj; subst hj; simpa using this
  | 3,hj=>simp [Ln.vals] at hj; subst hj; simpa using this
  | 4,hj=>simp [Ln.vals] at hj; subst hj; simpa using this
  | j + 5,hj=>simp [Ln.vals] at hj
 ·intro u hu
  simp [Ln.vals] at hu
  rcases hu with rfl | rfl | rfl | rfl | rfl <;> rfl
 ·intro v' w' h1 h2 _
  refine h v' w' ?_ h2
  rw [lnCells_append,lnCells_one,List.length_append]
  exact h1
end Go.Proofs.YtlbjjkbppbmihaaGreat
namespace Go.Proofs.YtlbjjkbppbmihaaGreat
open Go.RowKit
def openTo (ps:List Int) (p:Int) (k:Nat):List Int:=((List.range (k - 1)).map fun i:Nat=>(i:Int) + 1).filter fun q=>q==p || decide (q ∈ ps)
def openE (ps:List Int) (p:Int):Int:=if p<1∨16<p then 1 else if p ∈ ps then 8 else 0
def openP (ps:List Int) (p:Int):List Int:=if p<1∨16<p then ps else if p ∈ ps then ps else openTo ps p 17
theorem info_party:(Tryz.prog.info? 30).map (fun i=>(i.zero,i.size,i.bytes))=some (some (.int .u8 0),1,1):=by kernel_rfl
theorem wpList_append_party (w:World) {ops:Array Oper} {rest:List Oper} {o:Oper} {a:Act} {Q:Exit→Act→World→Prop} (hgd:o.guard=none) (s x:Operand)
  (ho:o.op=.call { callee:=.builtin .append,args:=#[s,x],argTypes:=#[67,67] }) (base:Nat) (v:Value) (ps:List Int) (hs:a.eval s=v)
  (hown:w.ownsRow base 30 1 v ps.length (ps.map (.int .u8))) (g c:Nat) (y:Int) (hx:a.eval x=.slice (some ⟨g,0,none⟩) 1 c) (hy:Blk w g #[.int .u8 y] 30) (hlen:ps.length≤100000) (hbase:base≤w.heap.size)
  (h:∀ v' w',w'.ownsRow base 30 1 v' (ps++[y]).length ((ps++[y]).map (.int .u8))→w.grownBy w' v.ownBlock→wpList Tryz.prog ops Q rest (a.put o.dst v') w'):wpList Tryz.prog ops Q (o::rest) a w:=by
 obtain ⟨i0,hi,hz0,hz1,hz2⟩:=info_parts info_party
 refine wpList_append_own w hgd s x 67 ho base 30 i0 (.int .u8 0) 1 1 Tryz.underlying67 hi hz0 hz1 hz2 rfl (by decide) v ps.length (ps.map (.int .u8)) hs hown ⟨g,0,none⟩ 1 c [.int .u8 y] hx rfl ?_ ?_ (by unfold maxLen; omega) (by omega) hbase ?_
 ·intro j u hj
  have:=hy.cell j
  rw [Go.WideShapes.add_plain]
  match j,hj with
  | 0,hj=>simp at hj; subst hj; simpa using this
  | j + 1,hj=>simp at hj
 ·intro u hu
  simp at hu
  subst hu; rfl
 ·intro v' w' h1 h2 _
  refine h v' w' ?_ h2
  rw [List.map_append,List.length_append]
  exact h1
end Go.Proofs.YtlbjjkbppbmihaaGreat
namespace Go.Proofs.YtlbjjkbppbmihaaGreat
structure Spr (f:Int→Int→Int) (a:Int) (R:Int→Prop) (pos:Int→Nat) (ah:Int→Int):Prop where
 ra:R a
 pa:pos a=0
 inj:∀ p q,R p→R q→pos p=pos q→p=q
 inp:∀ p,R p→inP p
 par:∀ q,R q→q≠a→R (ah q)∧0<f (ah q) q∧pos (ah q)<pos q
 cl:∀ p q,R p→0<f p q→R q∧(q=a∨pos (ah q)≤pos p)
 mono:∀ p q,R p→R q→p≠a→q≠a→pos p≤pos q→pos (ah p)≤pos (ah q)
 sib:∀ p q,R p→R q→p≠a→q≠a→ah p=ah q→p<q→pos p<pos q
variable {f:Int→Int→Int} {a:Int} {R:Int→Prop} {pos:Int→Nat} {ah:Int→Int}
theorem Spr.reach (h:Spr f a R pos ah):∀ (m:Nat) (y v:Int),wk f m y v→R y→R v
 | 0,y,v,hw,hy=>by
  have:y=v:=hw
  subst this
  exact hy
 | m + 1,y,v,⟨r,h1,h2⟩,hy=>h.reach m r v h2 (h.cl y r hy h1).1
def chainL (ah:Int→Int) (v:Int) (n:Nat):List Int:=((List.range n).map fun i=>itr ah i v).reverse
theorem chainL_len (ah:Int→Int) (v:Int) (n:Nat):(chainL ah v n).length=n:=by simp [chainL]
theorem chainL_succ (ah:Int→Int) (v:Int) (n:Nat):chainL ah v (n + 1)=itr ah n v::chainL ah v n:=by
 unfold chainL
 rw [List.range_succ,List.map_append,List.reverse_append]
 rfl
theorem Spr.no (h:Spr f a R pos ah) {B:Int} (hI:GInv f B) {v:Int} (hv:¬ R v):shortW f a v=[]:=by
 unfold shortW
 rw [if_neg]
 rintro ⟨_,_,_,hr⟩
 obtain ⟨m,_,hw⟩:=(inS_iff hI a 16 v).1 hr
 exact hv (h.reach m a v hw h.ra)
structure BfsI (f:Int→Int→Int) (a:Int) (x:Nat→Int) (pa:Nat→Nat) (n:Nat) (b:Int→Bool) (ah:Int→Int) (k:Nat) (c:Int):Prop where
 n1:1≤n
 x0:x 0=a
 inp:∀ i,i<n→inP (x i)
 inj:∀ i j,i<n→j<n→x i=x j→i=j
 came:∀ p,b p=true↔∃ i,i<n∧x i=p
 aha:ah a=0
 ah0:∀ p,b p=false→ah p=0
 par:∀ j,1≤j→j<n→pa j<j∧(pa j<k∨(pa j=k∧x j<c))∧ah (x j)=x (pa j)∧0<f (x (pa j)) (x j)
 mono:∀ i j,1≤i→i<j→j<n→pa i<pa j∨(pa i=pa j∧x i<x j)
 cl:∀ i w,i<n→(i<k∨(i=k∧w<c))→0<f (x i) w→∃ j,j<n∧x j=w∧(j=0∨pa j≤i)
variable {x:Nat→Int} {pa:Nat→Nat} {n:Nat} {b:Int→Bool} {k:Nat} {c:Int}
theorem BfsI.skip (h:BfsI f a x pa n b ah k c) (hk:k<n) (hc:b c=true∨f (x k) c≤0):BfsI f a x pa n b ah k (c + 1):=by
 refine ⟨h.n1,h.x0,h.inp,h.inj,h.came,h.aha,h.ah0,fun j h1 h2=>?_,h.mono,fun i w hi h1 h2=>?_⟩
 ·obtain ⟨p1,p2,p3⟩:=h.par j h1 h2
  exact ⟨p1,by omega,p3⟩
 ·by_cases hw:i=k∧w=c
  ·obtain ⟨rfl,rfl⟩:=hw
   rcases hc with hc | hc
   ·obtain ⟨j,j1,j2⟩:=(h.came w).1 hc
    refine ⟨j,j1,j2,?_⟩
    rcases Nat.eq_zero_or_pos j with h0 | h0
    ·exact .inl h0
    ·have:=(h.par j h0 j1).2.1
     omega
   ·omega
  ·exact h.cl i w hi (by omega) h2
theorem BfsI.add (h:BfsI f a x pa n b ah k c) (hk:k<n) (hb:b c=false) (hc:0<f (x k) c) (hp:inP c) :
  BfsI f a (fun i=>if i=n then c else x i) (fun i=>if i=n then k else pa i) (n + 1) (fun q=>if q=c then true else b q) (upI ah c (x k)) k (c + 1):=by
 have hnew:∀ i,i<n→x i≠c:=fun i hi e=>by
  have:=(h.came c).2 ⟨i,hi,e⟩
  rw [hb] at this; cases this
 have hx:∀ i,i<n→(if i=n then c else x i)=x i:=fun i hi=>if_neg (by omega)
 have hpa:∀ i,i<n→(if i=n then k else pa i)=pa i:=fun i hi=>if_neg (by omega)
 have hxn:(if n=n then c else x n)=c:=if_pos rfl
 have hpn:(if n=n then k else pa n)=k:=if_pos rfl
 refine ⟨by omega,?_,?_,?_,?_,?_,?_,?_,?_,?_⟩
 ·exact (hx 0 h.n1).trans h.x0
 ·intro i hi
  show inP (if i=n then c else x i)
  by_cases e:i=n
  ·rw [if_pos e]; exact hp
  ·rw [if_neg e]; exact h.inp i (by omega)
 ·intro i j hi hj e
  try dsimp only at e
  by_cases e1:i=n
  ·by_cases e2:j=n
   ·omega
   ·rw [if_pos e1,if_neg e2] at e
    exact absurd e.symm (hnew j (by omega))
  ·by_cases e2:j=n
   ·rw [if_neg e1,if_pos e2] at e
    exact absurd e (hnew i (by omega))
   ·rw [if_neg e1,if_neg e2] at e
    exact h.inj i j (by omega) (by omega) e
 ·intro p
  show (if p=c then true else b p)=true↔∃ i,i<n + 1∧(if i=n then c else x i)=p
  by_cases e:p=c
  ·rw [if_pos e]
   exact ⟨fun _=>⟨n,by omega,by rw [hxn,e]⟩,fun _=>rfl⟩
  ·rw [if_neg e]
   constructor
   ·intro hh
    obtain ⟨i,i1,i2⟩:=(h.came p).1 hh
    exact ⟨i,by omega,by rw [hx i i1]; exact i2⟩
   ·rintro ⟨i,i1,i2⟩
    by_cases ei:i=n
    ·rw [if_pos ei] at i2; exact absurd i2.symm e
    ·rw [if_neg ei] at i2
     exact (h.came p).2 ⟨i,by omega,i2⟩
 ·have:a≠c:=fun e=>hnew 0 h.n1 (h.x0.trans e)
  rw [upI_ne _ this]; exact h.aha
 ·intro p hp0
  try dsimp only at hp0
  by_cases e:p=c
  ·rw [if_pos e] at hp0; cases hp0
  ·rw [if_neg e] at hp0
   rw [upI_ne _ e]; exact h.ah0 p hp0
 ·intro j h1 h2
  show (if j=n then k else pa j)<j∧((if j=n then k else pa j)<k∨((if j=n then k else pa j)=k∧(if j=n then c else x j)<c + 1))∧upI ah c (x k) (if j=n then c else x j)=(if (if j=n then k else pa j)=n then c else x (if j=n then k else pa j))∧0<f (if (if j=n then k else pa j)=n then c else x (if j=n then k else pa j)) (if j=n then c else x j)
  by_cases e:j=n
  ·subst e
   rw [hxn,hpn,hx k hk,upI_same]
   exact ⟨hk,by omega,rfl,hc⟩
  ·have hj:j<n:=by omega
   obtain ⟨p1,p2,p3,p4⟩:=h.par j h1 hj
   rw [hx j hj,hpa j hj,hx _ (by omega),upI_ne _ (hnew j hj)]
   exact ⟨p1,by omega,p3,p4⟩
 ·intro i j h1 h2 h3
  show (if i=n then k else pa i)<(if j=n then k else pa j)∨((if i=n then k else pa i)=(if j=n then k else pa j)∧(if i=n then c else x i)<(if j=n then c else x j))
  have hi:i<n:=by omega
  rw [hx i hi,hpa i hi]
  by_cases e:j=n
  ·subst e
   rw [hxn,hpn]
   have:=(h.par i h1 hi).2.1
   omega
  ·have hj:j<n:=by omega
   rw [hx j hj,hpa j hj]
   exact h.mono i j h1 h2 hj
 ·intro i w hi h1 h2
  try dsimp only at h2 ⊢
  by_cases e:i=n
  ·omega
  ·rw [if_neg e] at h2
   by_cases hw:i=k∧w=c
   ·refine ⟨n,by omega,by rw [hxn]; exact hw.2.symm,.inr ?_⟩
    rw [hpn]; omega
   ·obtain ⟨j,j1,j2,j3⟩:=h.cl i w (by omega) (by omega) h2
    exact ⟨j,by omega,by rw [hx j j1]; exact j2,by rw [hpa j j1]; exact j3⟩
def posB (x:Nat→Int) (n:Nat) (p:Int):Nat:=((List.range n).find? fun i=>x i==p).getD 0
theorem BfsI.place (h:BfsI f a x pa n b ah k c) {i:Nat} (hi:i<n):posB x n (x i)=i:=by
 unfold posB
 have:(List.range n).find? (fun j=>x j==x i)=some i:=by
  rw [List.find?_eq_some_iff_getElem]
  refine ⟨by simp,i,by simpa using hi,by simp,fun j hj=>?_⟩
  have:x j≠x i:=fun e=>by have:=h.inj j i (by omega) hi e; omega
  simpa using this
 rw [this]
 rfl
end Go.Proofs.YtlbjjkbppbmihaaGreat
namespace Go.Proofs.YtlbjjkbppbmihaaGreat
structure LeftI (f:Int→Int→Int) (b:Int) (n:Nat) (done:Int→Int→Prop) (left:Int→Int):Prop where
 lo:∀ p,0≤left p∧left p≤99
 way:∀ p,left p=99∨wk f (left p).toNat p b
 all:∀ p m,m≤n→wk f m p b→left p≤m
 cur:∀ p r,done p r→0<f p r→∀ m,m≤n→wk f m r b→left p≤m + 1
def upL (left:Int→Int) (a x:Int):Int→Int:=fun p=>if p=a then x else left p
theorem LeftI.less {f:Int→Int→Int} {B:Int} (g:GInv f B) {b:Int} {n:Nat} {done done':Int→Int→Prop} {left:Int→Int} (h:LeftI f b n done left) {a c:Int} (hd:∀ p r,done' p r→done p r∨(p=a∧r=c)) (h1:0<f a c) (h2:left c + 1<left a):LeftI f b n done' (upL left a (left c + 1)):=by
 have hne:c≠a:=by rintro rfl; omega
 have hle:∀ p,upL left a (left c + 1) p≤left p:=fun p=>by
  unfold upL
  split
  ·rename_i hp; rw [hp]; omega
  ·exact Int.le_refl _
 refine ⟨fun p=>?_,fun p=>?_,fun p m hm hw=>Int.le_trans (hle p) (h.all p m hm hw),fun p r hdp h0 m hm hw=>?_⟩
 ·have:=h.lo p
  have:=h.lo c
  have:=h.lo a
  unfold upL
  split <;> omega
 ·unfold upL
  by_cases hp:p=a
  ·rw [if_pos hp]
   refine .inr ?_
   rcases h.way c with hc | hc
   ·have:=(h.lo a).2; omega
   ·have:=(h.lo c).1
    rw [show (left c + 1).toNat=(left c).toNat + 1 by omega,hp]
    exact ⟨c,h1,hc⟩
  ·rw [if_neg hp]; exact h.way p
 ·rcases hd p r hdp with hd | ⟨rfl,rfl⟩
  ·exact Int.le_trans (hle p) (h.cur p r hd h0 m hm hw)
  ·have:=h.all r m hm hw
   unfold upL
   rw [if_pos rfl]
   omega
theorem LeftI.pass {f:Int→Int→Int} {B:Int} (g:GInv f B) {b:Int} {n:Nat} {done:Int→Int→Prop} {left:Int→Int} (h:LeftI f b n done left) (hd:∀ p r,inP p→inP r→done p r):LeftI f b (n + 1) (fun _ _=>False) left:=by
 refine ⟨h.lo,h.way,fun p m hm hw=>?_,fun p r hd=>hd.elim⟩
 match m,hm,hw with
 | 0,_,hw=>exact h.all p 0 (by omega) hw
 | m + 1,hm,⟨r,h1,h2⟩ =>
  obtain ⟨e1,e2,_⟩:=g.ends h1
  have:=h.cur p r (hd p r e1 e2) h1 m (by omega) h2
  omega
end Go.Proofs.YtlbjjkbppbmihaaGreat
namespace Go.Proofs.YtlbjjkbppbmihaaGreat
open Go.RowKit
theorem clipF_any {w:World} {base:Nat} {v:Value} {n:Nat} {xs:List Value} (h:w.ownsRow base 62 3 v n xs) :
  Calls Tryz.prog 38 #[v] w (ClipPost w base 62 3 n v xs):=by
 rcases h.2 with ⟨rfl,h0⟩ | ⟨g,cap,cur,rfl,hbase,hb,h1,h2,h3,h4⟩
 ·subst h0
  have hr:=run_slice_clip_none (P:=Tryz.prog) w 36 62 3 Tryz.underlying36 (Tryz.sizeOf62 w)
  have hx:=h.1
  have hx2:=Lib.hid hx
  clear h hx
  go_enter Tryz.func38,Tryz.ntmps38
  go_wp2
  refine bodyPost_ret (v:=.slice none 0 0) (by simp [results,Tryz.results38,go_sem]) rfl ?_
  exact ⟨_,rfl,⟨hx2.out,.inl ⟨rfl,rfl⟩⟩,rfl,rfl⟩
 ·have hr:=run_slice_clip (P:=Tryz.prog) w 36 62 3 Tryz.underlying36 (Tryz.sizeOf62 w) g n cap h1
  have HR:=Lib.hid (show Rowed w base 62 3 (.slice (some ⟨g,0,none⟩) n n) n xs from ⟨h.1,.inr ⟨g,cur,rfl,hbase,hb,by omega,by omega,h4⟩⟩)
  clear h hb h4 h3
  unfold maxLen at h2
  go_enter Tryz.func38,Tryz.ntmps38
  go_wp2
  refine bodyPost_ret (v:=.slice (some ⟨g,0,none⟩) n n) (by simp [results,Tryz.results38,go_sem]) rfl ?_
  exact ⟨_,rfl,HR.out,rfl,rfl⟩
end Go.Proofs.YtlbjjkbppbmihaaGreat
namespace Go.Proofs.YtlbjjkbppbmihaaGreat
open Go.RowKit
end Go.Proofs.YtlbjjkbppbmihaaGreat
namespace Go.Proofs.YtlbjjkbppbmihaaGreat
open Go.RowKit
end Go.Proofs.YtlbjjkbppbmihaaGreat
namespace Go.Proofs.YtlbjjkbppbmihaaGreat
open Go.RowKit
theorem rowA_set (v:Int→Int→Value) (p:Int) {i:Nat} (hi:i<17) (u:Value):(rowA v p).setIfInBounds i u=rowA (fun a q=>if q=(i:Int) then u else v a q) p:=by
 apply Array.ext_getElem?
 intro j
 by_cases hj:j<17
 ·rw [rowA_get _ p hj]
  by_cases h:i=j
  ·subst h
   rw [Array.getElem?_setIfInBounds_self_of_lt (by rw [rowA_size]; exact hj),if_pos rfl]
  ·rw [Array.getElem?_setIfInBounds_ne h,rowA_get v p hj,if_neg (by omega)]
 ·rw [Array.getElem?_eq_none (by simp [rowA_size]; omega),Array.getElem?_eq_none (by rw [rowA_size]; omega)]
theorem rowA_congr {v u:Int→Int→Value} {p p':Int} (h:∀ i:Nat,i<17→v p i=u p' i):rowA v p=rowA u p':=by
 apply Array.ext_getElem?
 intro j
 by_cases hj:j<17
 ·rw [rowA_get v p hj,rowA_get u p' hj,h j hj]
 ·rw [Array.getElem?_eq_none (by rw [rowA_size]; omega),Array.getElem?_eq_none (by rw [rowA_size]; omega)]
def inA (b:Int→Bool):Array Value:=rowA (fun _ q=>.bool (b q)) 0
theorem inA_size (b:Int→Bool):(inA b).size=17:=rowA_size _ _
theorem inA_get (b:Int→Bool) {i:Nat} (h:i<17):(inA b)[i]? = some (.bool (b i)):=rowA_get _ _ h
theorem inA_set (b:Int→Bool) {i:Nat} (hi:i<17) (u:Bool):(inA b).setIfInBounds i (.bool u)=inA fun q=>if q=(i:Int) then u else b q:=by
 unfold inA
 rw [rowA_set _ _ hi]
 refine rowA_congr fun j hj=>?_
 dsimp only
 split <;> rfl
theorem inA_one (b:Int→Bool):(inA b).all (·.oneCell')=true:=by
 rw [Array.all_eq_true]
 intro i hi
 have h17:i<17:=by rw [inA_size] at hi; exact hi
 have:=inA_get b h17
 rw [Array.getElem?_eq_getElem hi] at this
 simp only [Option.some.injEq] at this
 rw [this]
 rfl
theorem Blk.inAt {w:World} {g:Nat} {b:Int→Bool} {t:TypeId} (h:Blk w g (inA b) t) {p:Int} (h0:0≤p) (h1:p<17):w.cell? ⟨g,p.toNat,none⟩=some (.bool (b p)):=by
 rw [h.cell,inA_get b (by omega),Int.toNat_of_nonneg h0]
theorem Blk.inSet {w:World} {g:Nat} {b:Int→Bool} {t:TypeId} (h:Blk w g (inA b) t) {p:Int} (h0:0≤p) (h1:p<17) (u:Bool):Blk (w.setCell ⟨g,p.toNat,none⟩ (.bool u)) g (inA fun q=>if q=p then u else b q) t:=by
 have:=h.set p.toNat (.bool u)
 rw [inA_set b (by omega),Int.toNat_of_nonneg h0] at this
 exact this
attribute [irreducible] inA
end Go.Proofs.YtlbjjkbppbmihaaGreat
namespace Go.Proofs.YtlbjjkbppbmihaaGreat
open Go.RowKit
end Go.Proofs.YtlbjjkbppbmihaaGreat
namespace Go.Proofs.YtlbjjkbppbmihaaGreat
open Go.RowKit
def ltA (left:Int→Int):Array Value:=rowA (fun _ q=>.int .i64 (left q)) 0
theorem ltA_size (left:Int→Int):(ltA left).size=17:=rowA_size _ _
theorem ltA_get (left:Int→Int) {i:Nat} (h:i<17):(ltA left)[i]? = some (.int .i64 (left i)):=rowA_get _ _ h
theorem ltA_set (left:Int→Int) {i:Nat} (hi:i<17) (n:Int):(ltA left).setIfInBounds i (.int .i64 n)=ltA (upL left i n):=by
 unfold ltA
 rw [rowA_set _ _ hi]
 refine rowA_congr fun j hj=>?_
 unfold upL
 try dsimp only
 split <;> rfl
theorem Blk.ltAt {w:World} {g:Nat} {l:Int→Int} {t:TypeId} (h:Blk w g (ltA l) t) {p:Int} (h0:0≤p) (h1:p<17):w.cell? ⟨g,p.toNat,none⟩=some (.int .i64 (l p)):=by
 rw [h.cell,ltA_get l (by omega),Int.toNat_of_nonneg h0]
theorem Blk.ltSet {w:World} {g:Nat} {l:Int→Int} {t:TypeId} (h:Blk w g (ltA l) t) {p:Int} (h0:0≤p) (h1:p<17) (n:Int):Blk (w.setCell ⟨g,p.toNat,none⟩ (.int .i64 n)) g (ltA (upL l p n)) t:=by
 have:=h.set p.toNat (.int .i64 n)
 rw [ltA_set l (by omega),Int.toNat_of_nonneg h0] at this
 exact this
attribute [irreducible] ltA
end Go.Proofs.YtlbjjkbppbmihaaGreat
namespace Go.Proofs.YtlbjjkbppbmihaaGreat
open Go.RowKit
def Ed.vals (e:Ed):List Value:=[.int .u8 e.fr,.int .u8 e.tt,.int .i8 e.co]
theorem Ed.vals_len (x:Ed):x.vals.length=3:=rfl
def edCells (ls:List Ed):List Value:=ls.flatMap Ed.vals
theorem edCells_len (ls:List Ed):(edCells ls).length=ls.length * 3:=flat_len _ 3 Ed.vals_len ls
theorem edCells_get (ls:List Ed) (i j:Nat) (hj:j<3) (h:i<ls.length):(edCells ls)[i * 3 + j]? = ls[i].vals[j]? := by
 unfold edCells
 rw [flat_get _ 3 Ed.vals_len ls i j hj,List.getElem?_eq_getElem h]
 rfl
structure Ed.Fits (x:Ed):Prop where
 fr:In8 x.fr
 tt:In8 x.tt
 co:-128≤x.co∧x.co≤127
def ahA (g:Int→Int):Array Value:=rowA (fun _ q=>.int .u8 (g q)) 0
theorem ahA_size (g:Int→Int):(ahA g).size=17:=rowA_size _ _
theorem ahA_get (g:Int→Int) {i:Nat} (h:i<17):(ahA g)[i]? = some (.int .u8 (g i)):=rowA_get _ _ h
attribute [irreducible] ahA
theorem roundW_stop {es:List Ed} {k:Nat} (hk:k<16) (h:(passN es (k + 1)).pt=0):roundW es=[]:=by
 unfold roundW
 rw [if_neg]
 intro hc
 have:=List.all_eq_true.1 hc k (by simpa using hk)
 simp [h] at this
end Go.Proofs.YtlbjjkbppbmihaaGreat
