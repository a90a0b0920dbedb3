import Derived.WalkKit
import Derived.ProofKit
import Derived.Lib.Hide
import Derived.Lib.IndexBytes
import Derived.Deep.AppendLies
import Derived.Deep.RegionLaw
import Derived.Deep.RegionHeld3
import Derived.Deep.QuietTactic
import Derived.BigQuiet
import Derived.ShutString
import Derived.StillTailTactics
import Derived.Deep.DeepFit
import Derived.IntWalk
import Derived.Lib.LaidTab
import Derived.Lib.UnsafeStr
import Derived.Lib.AppendStr
import Derived.Test.YtgmflecelnefcaaGreatRows
import Derived.Deep.MidRow
import Derived.Laws.AppendOwnNone
import Derived.Maps.AppendAt
import Derived.Deep.Slices
set_option maxRecDepth 100000
set_option maxHeartbeats 40000000
namespace Go.Proofs.YtgmflecelnefcaaGreat
open Go.RowKit
theorem Tryz.info5:(Tryz.prog.info? 5).map (fun i=>(i.zero,i.size,i.bytes))=some (some (.int .u8 0),1,1):=by kernel_rfl
abbrev str (l:List UInt8):ByteArray:=⟨l.toArray⟩
theorem str_data (s:ByteArray):str s.data.toList=s:=by cases s;simp [str]
theorem vBn (a b:List UInt8):str a++str b=str (a++b):=by
 unfold str;rw [ByteArray.mk_append_mk]
theorem vBa (l:List UInt8):(str l).size=l.length:=by simp [ByteArray.size]
def sb (s:ByteArray) (j:Nat):Int:=((s.data.toList.getD j 0).toNat:Int)
theorem sb_lo (s:ByteArray) (j:Nat):0≤sb s j:=by unfold sb;omega
theorem sb_hi (s:ByteArray) (j:Nat):sb s j<256:=by unfold sb;have:=(s.data.toList.getD j 0).toNat_lt;omega
theorem vAy (s:ByteArray) (j:Nat) (i:Int) (hi:i=(j:Int)) (hj:j<s.size) (w:World):(Instr.index 9 (.string s) (.int .i64 i)).run Tryz.prog w=.ok (.int .u8 (sb s j)) w:=by
 subst hi
 have h1:((j:Int))<(s.size:Int):=by omega
 go_simp
 simp [sb,List.getD,List.getElem?_eq_getElem (show j<s.data.toList.length by simpa using hj)]
 rfl
theorem vDc {a w w':World} {e:TypeId} {s n:Nat} {v:Value} {xs:List Value} (h:Below a.heap.size a w) (ho:w.ownsRow a.heap.size e s v n xs) (hg:w.grownBy w' v.ownBlock):Below a.heap.size a w':=
 h.grown hg h.size (fun k hk=>(ho.lt k hk).1)
theorem vAd {B:Nat} {a w:World} (h:Below B a w) (n:Nat):Below B a (w.drewN n):=⟨h.os,h.tape,h.output,h.size,h.block⟩
theorem vDd (w:World) (m n:Nat):(w.drewN m).drewN n=w.drewN (m+n):=by simp [World.drewN,Nat.add_assoc]
def Drew (w w':World):Prop:=∃n,w'=w.drewN n
theorem Drew.refl (w:World):Drew w w:=⟨0,rfl⟩
theorem Drew.below {w w':World} (h:Drew w w'):Below w.heap.size w w':=by
 obtain ⟨n,rfl⟩:=h;exact vAd (Below.refl _ _) n
theorem Below.drew {B:Nat} {a w w':World} (h:Below B a w) (g:Drew w w'):Below B a w':=by
 obtain ⟨n,rfl⟩:=g;exact vAd h n
theorem extract_one (l:List UInt8) (k:Nat) (h:k<l.length):(str l).extract k (k+1)=str [l.getD k 0]:=by
 rw [←str_data ((str l).extract k (k+1))];congr 1;rw [Lib.extract_data];have e:l.drop k=l[k] :: l.drop (k+1):=List.drop_eq_getElem_cons h;rw [show (str l).data.toList=l by simp,show k+1 - k=1 by omega,e,List.getD,List.getElem?_eq_getElem h]
 rfl
theorem vEo {w w1:World} {o1:Obj} (hb:Below (w.alloc o1).heap.size (w.alloc o1) w1):Below w.heap.size w w1:=
 ((Below.refl _ _).alloc (Nat.le_refl _) _).trans (hb.mono (by simp))
theorem vAa {w w1 w2:World} (h:Below w.heap.size w w1) (g:Below w1.heap.size w1 w2):Below w.heap.size w w2:=h.trans (g.mono h.size)
theorem vAj (w:World) (o1 o2:Obj):Below w.heap.size w ((w.alloc o1).alloc o2):=((Below.refl _ _).alloc (Nat.le_refl _) _).alloc (by simp) _
def ISl (w:World) (k:IntKind) (A:Option Addr) (n c:Nat) (xs:List Int):Prop:=
 xs.length=n∧n≤c∧c≤maxLen∧(0<n→∃b off,A=some ⟨b,off,none⟩∧b<w.heap.size∧∀j,j<n→w.cell? ⟨b,off+j,none⟩=some (.int k (xs.getD j 0)))
section
variable {w w':World} {k:IntKind} {A:Option Addr} {n c:Nat} {xs:List Int}
theorem ISl.below (h:ISl w k A n c xs) (hb:Below w.heap.size w w'):ISl w' k A n c xs:=
 ⟨h.1,h.2.1,h.2.2.1,fun hn=>by
   obtain ⟨b,off,e,hl,hc⟩:=h.2.2.2 hn
   exact ⟨b,off,e,Nat.lt_of_lt_of_le hl hb.size,fun j hj=>(hb.cell (p:=⟨b,off+j,none⟩) hl).trans (hc j hj)⟩⟩
theorem ISl.alloc (h:ISl w k A n c xs) (o:Obj):ISl (w.alloc o) k A n c xs:=h.below ((Below.refl _ _).alloc (Nat.le_refl _) o)
theorem ISl.drew (h:ISl w k A n c xs) (hd:Drew w w'):ISl w' k A n c xs:=by obtain ⟨m,rfl⟩:=hd;exact h
theorem ISl.nil:ISl w k none 0 0 []:=⟨rfl,Nat.le_refl _,Nat.zero_le _,fun h=>absurd h (by omega)⟩
theorem ISl.le (h:ISl w k A n c xs):n≤c:=h.2.1
theorem ISl.len (h:ISl w k A n c xs):xs.length=n:=h.1
theorem ISl.cap (h:ISl w k A n c xs):c≤9223372036854775807:=by have:=h.2.2.1;unfold maxLen at this;omega
theorem ISl.of_own {B:Nat} {e:TypeId} (h:w.ownsRow B e 1 (.slice A n c) n (xs.map (Value.int k))):ISl w k A n c xs:=by
 have hl:=h.1;rw [List.length_map,Nat.mul_one] at hl
 rcases h.2 with ⟨hv,hn⟩|⟨g,cap,cur,hv,hB,hh,hnc,hm,_⟩
 · injection hv with h1 h2 h3
   subst h1 h3 hn;exact ⟨hl,Nat.le_refl _,Nat.zero_le _,fun h=>absurd h (by omega)⟩
 · injection hv with h1 h2 h3
   subst h1 h3;refine ⟨hl,hnc,hm,fun hn=>⟨g,0,rfl,?_,fun j hj=>?_⟩⟩
   · rcases Nat.lt_or_ge g w.heap.size with h'|h'
     · exact h'
     · rw [Array.getElem?_eq_none h'] at hh;cases hh
   · have:=h.cells (g:=g) rfl j (.int k (xs.getD j 0)) (by simp [List.getD,List.getElem?_eq_getElem (show j<xs.length by omega)])
     rw [←this]
     by_cases h0:j=0<;>simp [Addr.add,h0]
end
def oi (E x:Int):Int:=if E=0 then x else 0
structure Rdr (α:Type) where
 n:Nat
 rd:World→(Nat→Prop)→List Value→α→Prop
 len:∀{w F vs a},rd w F vs a→vs.length=n
 one:∀{w F vs a},rd w F vs a→∀v∈vs,v.oneCell'=true
 keep:∀{w w' F F' vs a},rd w F vs a→(∀b,F b→w'.heap[b]?=w.heap[b]?)→(∀b,F b→F' b)→rd w' F' vs a
abbrev vAp (w:World) (b:Nat):Prop:=b<w.heap.size
def Rdr.int (k:IntKind):Rdr Int where
 n:=1
 rd:=fun _ _ vs x=>vs=[.int k x]
 len:=by rintro w F vs a rfl;rfl
 one:=by rintro w F vs a rfl v hv;rw [List.mem_singleton.1 hv];rfl
 keep:=fun h _ _=>h
def Rdr.str_:Rdr (List UInt8) where
 n:=1
 rd:=fun _ _ vs l=>vs=[.string (str l)]
 len:=by rintro w F vs a rfl;rfl
 one:=by rintro w F vs a rfl v hv;rw [List.mem_singleton.1 hv];rfl
 keep:=fun h _ _=>h
def RSl {α:Type} (R:Rdr α) (w:World) (F:Nat→Prop) (A:Option Addr) (n c:Nat) (xs:List α):Prop:=
 xs.length=n∧n≤c∧c≤maxLen∧(A=none→c=0)∧(0<n→∃b off,A=some ⟨b,off,none⟩∧F b∧b<w.heap.size∧∀(j:Nat) x,xs[j]?=some x→∃vs,R.rd w F vs x∧w.rangeAt b (off+j * R.n) vs)
section
variable {α:Type} {R:Rdr α} {w w':World} {F F':Nat→Prop} {A:Option Addr} {n c:Nat} {xs:List α}
theorem vIe {w w':World} {b:Nat} (h:w'.heap[b]?=w.heap[b]?) (hl:b<w.heap.size):b<w'.heap.size:=by
 rcases Nat.lt_or_ge b w'.heap.size with h'|h'
 · exact h'
 · rw [Array.getElem?_eq_none h',Array.getElem?_eq_getElem hl] at h;cases h
theorem vAb {w w':World} {b o:Nat} {vs:List Value} (h:w.rangeAt b o vs) (hb:w'.heap[b]?=w.heap[b]?):w'.rangeAt b o vs:=
 fun j v hv=>(World.cell?_of_block (w:=w) (a:=⟨b,o+j,none⟩) hb).trans (h j v hv)
theorem RSl.keep (h:RSl R w F A n c xs) (hb:∀b,F b→w'.heap[b]?=w.heap[b]?) (hF:∀b,F b→F' b):RSl R w' F' A n c xs:=
 ⟨h.1,h.2.1,h.2.2.1,h.2.2.2.1,fun hn=>by
   obtain ⟨b,off,e,hf,hl,hc⟩:=h.2.2.2.2 hn;refine ⟨b,off,e,hF b hf,vIe (hb b hf) hl,fun j x hx=>?_⟩;obtain ⟨vs,h1,h2⟩:=hc j x hx
   exact ⟨vs,R.keep h1 hb hF,vAb h2 (hb b hf)⟩⟩
theorem RSl.below (h:RSl R w F A n c xs) (hF:∀b,F b→b<w.heap.size) (hb:Below w.heap.size w w'):RSl R w' F A n c xs:=h.keep (fun b h=>hb.block b (hF b h)) (fun _ h=>h)
theorem RSl.nil:RSl R w F none 0 0 []:=⟨rfl,Nat.le_refl _,Nat.zero_le _,fun _=>rfl,fun h=>absurd h (by omega)⟩
theorem RSl.len (h:RSl R w F A n c xs):xs.length=n:=h.1
theorem RSl.le (h:RSl R w F A n c xs):n≤c:=h.2.1
theorem RSl.cap (h:RSl R w F A n c xs):c≤9223372036854775807:=by have:=h.2.2.1;unfold maxLen at this;omega
theorem RSl.at_ (h:RSl R w F A n c xs) (hn:0<n):∃b off,A=some ⟨b,off,none⟩∧F b∧b<w.heap.size∧∀(j:Nat) x,xs[j]?=some x→∃vs,R.rd w F vs x∧w.rangeAt b (off+j * R.n) vs:=h.2.2.2.2 hn
end
def Rdr.list {α:Type} (R:Rdr α):Rdr (List α) where
 n:=1
 rd:=fun w F vs xs=>∃A n c,vs=[.slice A n c]∧RSl R w F A n c xs
 len:=by rintro w F vs a ⟨A,n,c,rfl,_⟩;rfl
 one:=by rintro w F vs a ⟨A,n,c,rfl,_⟩ v hv;rw [List.mem_singleton.1 hv];rfl
 keep:=by rintro w w' F F' vs a ⟨A,n,c,rfl,h⟩ hb hF;exact ⟨A,n,c,rfl,h.keep hb hF⟩
def RdAll {α:Type} (R:Rdr α) (w:World) (F:Nat→Prop):List Value→List α→Prop
 |vs,[]=>vs=[]
 |vs,x :: r=>∃us ws,vs=us++ws∧R.rd w F us x∧RdAll R w F ws r
section
variable {α:Type} {R:Rdr α} {w w':World} {F F':Nat→Prop}
theorem RdAll.keep (hb:∀b,F b→w'.heap[b]?=w.heap[b]?) (hF:∀b,F b→F' b):∀{xs:List α} {vs:List Value},RdAll R w F vs xs→RdAll R w' F' vs xs
 | [],_,h=>h
 |_ :: _,_,⟨us,ws,e,h1,h2⟩=>⟨us,ws,e,R.keep h1 hb hF,h2.keep hb hF⟩
theorem RdAll.len:∀{xs:List α} {vs:List Value},RdAll R w F vs xs→vs.length=xs.length * R.n
 | [],vs,h=>by rw [show vs=[] from h];simp
 |x :: r,_,⟨us,ws,e,h1,h2⟩=>by rw [e,List.length_append,R.len h1,h2.len,List.length_cons,Nat.add_mul];omega
theorem RdAll.app {us:List Value} {ys:List α}:∀{xs:List α} {vs:List Value},RdAll R w F vs xs→RdAll R w F us ys→RdAll R w F (vs++us) (xs++ys)
 | [],vs,h,g=>by rw [show vs=[] from h];exact g
 |x :: r,_,⟨a,b,e,h1,h2⟩,g=>⟨a,b++us,by rw [e,List.append_assoc],h1,h2.app g⟩
theorem RdAll.one_ {us:List Value} {x:α} (h:R.rd w F us x):RdAll R w F us [x]:=⟨us,[],by simp,h,rfl⟩
theorem RdAll.cells:∀{xs:List α} {vs:List Value},RdAll R w F vs xs→∀v∈vs,v.oneCell'=true
 | [],vs,h=>by rw [show vs=[] from h];intro v hv;cases hv
 |x :: r,_,⟨a,b,e,h1,h2⟩=>by
  intro v hv;rw [e] at hv
  rcases List.mem_append.1 hv with hv|hv
  · exact R.one h1 v hv
  · exact h2.cells v hv
theorem RdAll.at_:∀{xs:List α} {vs:List Value},RdAll R w F vs xs→∀(j:Nat) x,xs[j]?=some x→∃us,R.rd w F us x∧∀(i:Nat) v,us[i]?=some v→vs[j * R.n+i]?=some v
 | [],_,_=>fun j x hx=>by simp at hx
 |y :: r,_,⟨a,b,e,h1,h2⟩=>fun j x hx=>by
  subst e
  match j with
  |0=>
   have:y=x:=by simpa using hx
   subst this;refine ⟨a,h1,fun i v hv=>?_⟩;rw [Nat.zero_mul,Nat.zero_add,List.getElem?_append_left (List.getElem?_eq_some_iff.1 hv).1];exact hv
  |j+1=>
   obtain ⟨us,g1,g2⟩:=h2.at_ j x (by simpa using hx);refine ⟨us,g1,fun i v hv=>?_⟩;have hl:=R.len h1;rw [List.getElem?_append_right (by rw [hl,Nat.add_mul];omega),hl,←g2 i v hv];congr 1;rw [Nat.add_mul];omega
end
def vFh (w:World) (v:Value) (b:Nat):Prop:=b<w.heap.size∧v.ownBlock≠some b
def ROwn {α:Type} (R:Rdr α) (w:World) (B:Nat) (e:TypeId) (v:Value) (xs:List α):Prop:=∃vs,w.ownsRow B e R.n v xs.length vs∧RdAll R w (vFh w v) vs xs
section
variable {α:Type} {R:Rdr α} {w w':World} {B:Nat} {e:TypeId} {v:Value} {xs:List α}
theorem ROwn.nil (w:World) (B:Nat) (e:TypeId):ROwn R w B e (.slice none 0 0) []:=⟨[],World.ownsRow_nil _ _ _ _,rfl⟩
theorem ROwn.below (h:ROwn R w B e v xs) (hb:Below w.heap.size w w'):ROwn R w' B e v xs:=by
 obtain ⟨vs,h1,h2⟩:=h
 exact ⟨vs,h1.kept (row:=none) ⟨hb.os,hb.tape,hb.output,hb.size,fun k hk _=>hb.block k hk⟩ (by cases hx:v.ownBlock<;>simp),h2.keep (fun b h=>hb.block b h.1) (fun b h=>⟨Nat.lt_of_lt_of_le h.1 hb.size,h.2⟩)⟩
theorem ROwn.shape (h:ROwn R w B e v xs):∃A c,v=.slice A xs.length c:=by
 obtain ⟨vs,h1,_⟩:=h
 rcases h1.2 with ⟨rfl,hn⟩|⟨g,cap,cur,rfl,_⟩
 · exact ⟨_,_,by rw [hn]⟩
 · exact ⟨_,_,rfl⟩
theorem ROwn.lt (h:ROwn R w B e v xs) (g:Nat) (hg:v.ownBlock=some g):B≤g∧g<w.heap.size:=by
 obtain ⟨vs,h1,_⟩:=h;exact h1.lt g hg
end
theorem wpList_rapp {P:Program} {α:Type} (R:Rdr α) {w0:World} {ops:Array Oper} {rest:List Oper} {o:Oper} {a:Act} {Q:Exit→Act→World→Prop} (hgd:o.guard=none) (s x:Operand) (t:TypeId)
 (ho:o.op=.call {callee:=.builtin .append,args:=#[s,x],argTypes:=#[t,t]})
 (base:Nat) (e:TypeId) (i:TypeInfo) (z:Value) (bytes:Nat) (ht:P.underlying t=some (.slice e)) (hi:P.info? e=some i) (hz:i.zero=some z)
 (hsize:i.size=R.n) (hby:i.bytes=bytes) (hzs:z.cells.size=R.n) (hR:0<R.n)
 (v:Value) (xs:List α) (hown:ROwn R w0 base e v xs)
 (y:α) (cells:Array Value) (F:Nat→Prop) (hy:R.rd w0 F cells.toList y) (hF:∀b,F b→vFh w0 v b) (q:Nat) (hq:q=w0.heap.size)
 (h63:xs.length+1≤maxLen) (hbytes:(xs.length+1) * bytes≤140737488355328) (hbase:base≤w0.heap.size)
 (hs:a.eval s=v) (hx:a.eval x=.slice (some ⟨q,0,none⟩) 1 1)
 (h:∀v' w',ROwn R w' base e v' (xs++[y])→Below base w0 w'→wpList P ops Q rest (a.put o.dst v') w'):wpList P ops Q (o :: rest) a (w0.alloc (.cells cells e)):=by
 subst hq;obtain ⟨vs,h1,h2⟩:=hown;have hlen:=R.len hy;have h1b:(w0.alloc (.cells cells e)).ownsRow base e R.n v xs.length vs:=h1.alloc _;refine wpList_append_own_at _ hgd s x t ho base e i z R.n bytes ht hi hz hsize hby hzs hR v xs.length vs hs h1b ⟨w0.heap.size,0,none⟩ 1 1 cells.toList hx (by rw [hlen,Nat.one_mul]) (fun j u hu=>?_) (R.one hy) h63 hbytes (by simp;omega) (fun v' w' g1 g2 _ g4=>?_)
 · rw [Addr.add_mid,Nat.zero_add,World.cell?_alloc_new]
   simpa using hu
 · have same:∀b,vFh w0 v b→w'.heap[b]?=w0.heap[b]?:=fun b hb=>by
    rw [g2.block b (by simp;have:=hb.1;omega) (fun e=>hb.2 e.symm)];exact Below.heap_alloc _ _ _ hb.1
   have keepF:∀b,vFh w0 v b→vFh w' v' b:=fun b hb=>⟨Nat.lt_of_lt_of_le hb.1 (Nat.le_trans (by simp) g2.size),fun e=>by
    rcases g4 with g4|g4
    · exact hb.2 (g4▸e)
    · rw [g4] at e
      injection e with e
      have:=hb.1
      simp at e
      omega⟩
   refine h v' w' ⟨vs++cells.toList,by rw [List.length_append];exact g1,(h2.keep same keepF).app (RdAll.one_ (R.keep hy (fun b hb=>same b (hF b hb)) (fun b hb=>keepF b (hF b hb))))⟩ ?_;exact (((Below.refl base w0).alloc hbase _).grown g2 (by simp;omega) (fun k hk=>(h1.lt k hk).1))
theorem flat_aux {α:Type} {R:Rdr α} {w:World} {F:Nat→Prop} {b:Nat}:∀(ys:List α) (off:Nat),(∀(j:Nat) x,ys[j]?=some x→∃vs,R.rd w F vs x∧w.rangeAt b (off+j * R.n) vs)→∃vs,RdAll R w F vs ys∧w.rangeAt b off vs
 | [],off,_=>⟨[],rfl,fun j v h=>by simp at h⟩
 |y :: r,off,h=>by
  obtain ⟨us,h1,h2⟩:=h 0 y rfl;rw [Nat.zero_mul,Nat.add_zero] at h2
  obtain ⟨ws,g1,g2⟩:=flat_aux r (off+R.n) (fun j x hx=>by
   obtain ⟨vs,a1,a2⟩:=h (j+1) x hx;rw [show off+(j+1) * R.n=off+R.n+j * R.n by rw [Nat.add_mul];omega] at a2
   exact ⟨vs,a1,a2⟩)
  refine ⟨us++ws,⟨us,ws,rfl,h1,g1⟩,fun j v hv=>?_⟩;have hl:=R.len h1
  by_cases hj:j<us.length
  · rw [List.getElem?_append_left hj] at hv
    exact h2 j v hv
  · rw [List.getElem?_append_right (by omega)] at hv
    have:=g2 _ v hv
    rw [show off+R.n+(j - us.length)=off+j by omega] at this;exact this
theorem wpList_rapps {P:Program} {α:Type} (R:Rdr α) {w:World} {ops:Array Oper} {rest:List Oper} {o:Oper} {a:Act} {Q:Exit→Act→World→Prop} (hgd:o.guard=none) (s x:Operand) (t:TypeId)
 (ho:o.op=.call {callee:=.builtin .append,args:=#[s,x],argTypes:=#[t,t]})
 (base:Nat) (e:TypeId) (i:TypeInfo) (z:Value) (bytes:Nat) (ht:P.underlying t=some (.slice e)) (hi:P.info? e=some i) (hz:i.zero=some z)
 (hsize:i.size=R.n) (hby:i.bytes=bytes) (hzs:z.cells.size=R.n) (hR:0<R.n)
 (v:Value) (xs:List α) (hown:ROwn R w base e v xs)
 (F:Nat→Prop) (A:Option Addr) (m c:Nat) (ys:List α) (hy:RSl R w F A m c ys) (hF:∀b,F b→vFh w v b)
 (h63:xs.length+m≤maxLen) (hbytes:(xs.length+m) * bytes≤140737488355328) (hbase:base≤w.heap.size)
 (hs:a.eval s=v) (hx:a.eval x=.slice A m c)
 (h:∀v' w',ROwn R w' base e v' (xs++ys)→Below base w w'→wpList P ops Q rest (a.put o.dst v') w'):wpList P ops Q (o :: rest) a w:=by
 obtain ⟨vs,h1,h2⟩:=hown
 rcases A with _|ad
 · have hc:=hy.2.2.2.1 rfl
   have hm:m=0:=by have:=hy.le;omega
   subst hm hc;have hnil:ys=[]:=List.eq_nil_of_length_eq_zero hy.len;subst hnil
   exact wpList_append_own_none hgd s x t ho base e i R.n ht hi v xs.length vs hs h1 hx (by
    have:=h v w ⟨vs,by simpa using h1,by simpa using h2⟩ (Below.refl _ _)
    exact this)
 · have flat:∃us,RdAll R w F us ys∧∀(j:Nat) u,us[j]?=some u→w.cell? (ad.add j)=some u:=by
    rcases Nat.eq_zero_or_pos m with h0|h0
    · have hnil:ys=[]:=List.eq_nil_of_length_eq_zero (by rw [hy.len];exact h0)
      subst hnil;exact ⟨[],rfl,fun j u hu=>by simp at hu⟩
    · obtain ⟨b,off,e2,_,_,hc⟩:=hy.at_ h0
      injection e2 with e2
      subst e2;obtain ⟨us,g1,g2⟩:=flat_aux ys off hc;exact ⟨us,g1,fun j u hu=>by rw [Addr.add_mid];exact g2 j u hu⟩
   obtain ⟨us,g1,g2⟩:=flat;have hlen:=g1.len;refine wpList_append_own_at _ hgd s x t ho base e i z R.n bytes ht hi hz hsize hby hzs hR v xs.length vs hs h1 ad m c us hx (by rw [hlen,hy.len]) g2 g1.cells h63 hbytes hbase (fun v' w' k1 k2 _ k4=>?_)
   have same:∀b,vFh w v b→w'.heap[b]?=w.heap[b]?:=fun b hb=>k2.block b hb.1 (fun e=>hb.2 e.symm)
   have keepF:∀b,vFh w v b→vFh w' v' b:=fun b hb=>⟨Nat.lt_of_lt_of_le hb.1 k2.size,fun e=>by
    rcases k4 with k4|k4
    · exact hb.2 (k4▸e)
    · rw [k4] at e
      injection e with e
      have:=hb.1
      omega⟩
   refine h v' w' ⟨vs++us,by rw [List.length_append,hy.len];exact k1,(h2.keep same keepF).app (g1.keep (fun b hb=>same b (hF b hb)) (fun b hb=>keepF b (hF b hb)))⟩ ?_;exact (Below.refl base w).grown k2 hbase (fun k hk=>(h1.lt k hk).1)
theorem ROwn.lit0 {α:Type} {R:Rdr α} (w:World) (B:Nat) (e:TypeId) (hB:B≤w.heap.size):ROwn R (w.alloc (.cells #[] e)) B e (.slice (some ⟨w.heap.size,0,none⟩) 0 0) ([]:List α):=by
 refine ⟨[],⟨by simp,.inr ⟨w.heap.size,0,#[],rfl,hB,?_,Nat.le_refl _,Nat.zero_le _,by simp,by simp⟩⟩,rfl⟩;exact heap_alloc_new w _
section
variable {α:Type} {R:Rdr α} {w w':World} {B:Nat} {e:TypeId} {v:Value} {xs:List α}
end
open Go.ChangeShapes Go.WideShapes Go.ChangeAt Go.RowKit
def Rdr.Of {α:Type} (R:Rdr α) (P:Program) (t:TypeId):Prop:=
 ∀(H:Type) (enc:TypeId×Value→H) (w:World) (sp:Nat→Bool) (held:Bool) (fuel:Nat) (cs:List Value) (x:DataW H×List MemPlace),DataW.trod enc P w 0 sp held fuel t cs=some x→∃a,R.rd w (vAp w) cs a
theorem vBu (b off i:Nat):(⟨b,off,none⟩:Addr).add i=⟨b,off+i,none⟩:=by unfold Addr.add;split<;>simp_all
theorem vAg {cs:List Value} {o:Nat} {v:Value} (h:(cs.drop o).take 1=[v]):cs[o]?=some v:=by
 have:=congrArg (·[0]?) h
 simpa [List.getElem?_take,List.getElem?_drop] using this
theorem str_of (s:ByteArray):str s.data.toList=s:=by
 obtain ⟨⟨l⟩⟩:=s
 rfl
theorem vBf {P:Program} {t:TypeId} {k:IntKind} (ht:P.underlying t=some (.int k)):(Rdr.int k).Of P t:=fun H enc w sp held fuel cs x h=>by
 obtain ⟨z,rfl,_⟩:=DataW.trod_int ht h;exact ⟨z,rfl⟩
theorem of_str {P:Program} {t:TypeId} (ht:P.underlying t=some .string):Rdr.str_.Of P t:=fun H enc w sp held fuel cs x h=>by
 obtain ⟨z,rfl,_⟩:=DataW.trod_string ht h;exact ⟨z.data.toList,by show [Value.string z]=[Value.string (str z.data.toList)];rw [str_of]⟩
theorem vCt {P:Program} {t e:TypeId} {α:Type} {R:Rdr α} (ht:P.underlying t=some (.slice e)) (hce:P.cellsOf e=R.n) (hn:0<R.n) (he:R.Of P e):R.list.Of P t:=fun H enc w sp held fuel cs x h=>by
 rcases Go.Deep.open_slice ht h with ⟨rfl,_⟩|⟨a,len,cap,m,k,D,Pl,rfl,_,hl,hm,hmm,_,hx⟩
 · exact ⟨[],none,0,0,rfl,RSl.nil⟩
 · have hlm:len≤m:=by rw [hmm];split<;>omega
   have hel:∀i,i<len→∃(y:α) (vs:List Value),R.rd w (vAp w) vs y∧∀j,j<R.n→w.cell? ((a.add (i * R.n)).add j)=vs[j]?:=fun i hi=>by
    obtain ⟨cs',h1,h2⟩:=hx i (by omega);rw [hce] at h1;obtain ⟨y,hy⟩:=he _ _ _ _ _ _ _ _ h2;exact ⟨y,cs',hy,(World.cells?_some h1).2.2⟩
   rcases Nat.eq_zero_or_pos len with h0|h0
   · subst h0
     exact ⟨[],some a,0,cap,rfl,rfl,Nat.zero_le _,hm,fun e=>(by cases e),fun hh=>absurd hh (by omega)⟩
   · have hL:∃f:Nat→α,∀i,i<len→∃vs:List Value,R.rd w (vAp w) vs (f i)∧∀j,j<R.n→w.cell? ((a.add (i * R.n)).add j)=vs[j]?:=by
      refine ⟨fun i=>if hi:i<len then (hel i hi).choose else (hel 0 h0).choose,fun i hi=>?_⟩;simp only [dif_pos hi];exact (hel i hi).choose_spec
     obtain ⟨f,hf⟩:=hL;refine ⟨(List.range len).map f,some a,len,cap,rfl,by simp,hl,hm,fun e=>(by cases e),fun _=>?_⟩;obtain ⟨b,off,spot⟩:=a;obtain ⟨vs0,hr0,hc0⟩:=hf 0 h0;have h00:=hc0 0 hn;have hv0:∃v0,vs0[0]?=some v0:=⟨_,List.getElem?_eq_getElem (by rw [R.len hr0];exact hn)⟩;obtain ⟨v0,hv0⟩:=hv0;rw [hv0] at h00
     have hspot:spot=none:=by simpa [Addr.add] using World.cell?_spot h00
     subst hspot;rw [vBu,vBu] at h00;refine ⟨b,off,rfl,World.block_lt_of_cell? w _ h00,World.block_lt_of_cell? w _ h00,fun j y hy=>?_⟩
     have hj:j<len:=by
      have:=(List.getElem?_eq_some_iff.1 hy).1
      simpa using this
     rw [List.getElem?_map,List.getElem?_range hj] at hy
     injection hy with hy
     subst hy;obtain ⟨vs,hr,hc⟩:=hf j hj;refine ⟨vs,hr,fun i v hv=>?_⟩
     have hi:i<R.n:=by
      have:=(List.getElem?_eq_some_iff.1 hv).1
      rwa [R.len hr] at this
     have:=hc i hi
     rw [vBu,vBu,hv] at this;exact this
theorem vBm {P:Program} {t:TypeId} {l:Nat} {α:Type} {R:Rdr α} {H:Type} {enc:TypeId×Value→H} {w:World} {sp:Nat→Bool} {held:Bool} {n:Nat} {xs:List (DataW H×List MemPlace)} {cs:List Value} (k:Nat) (hf:DataW.trod enc P w 0 sp held n t ((cs.drop k).take (P.cellsOf t))=xs[k]?) (hx:∃y,xs[k]?=some y) (hl:P.cellsOf t=l) (hR:R.Of P t):∃a,R.rd w (vAp w) ((cs.drop k).take l) a:=by
 obtain ⟨y,e⟩:=hx;rw [hl] at hf;exact hR _ _ _ _ _ _ _ _ (hf.trans e)
theorem vFj {P:Program} {t:TypeId} {l:Nat} {H:Type} {enc:TypeId×Value→H} {w:World} {sp:Nat→Bool} {held:Bool} {n:Nat} {xs:List (DataW H×List MemPlace)} {cs:List Value} (k:Nat) (hf:DataW.trod enc P w 0 sp held n t ((cs.drop k).take (P.cellsOf t))=xs[k]?) (hx:∃y,xs[k]?=some y) (hl:P.cellsOf t=l):∃y,DataW.trod enc P w 0 sp held n t ((cs.drop k).take l)=some y:=by
 obtain ⟨y,e⟩:=hx;rw [hl] at hf;exact ⟨y,hf.trans e⟩
end Go.Proofs.YtgmflecelnefcaaGreat
