import Derived.Test.YtgmflecelnefcaaGreatOp13
import Derived.Test.YtgmflecelnefcaaGreatOp11
import Derived.OwnWalk
import Derived.WalkSpells
set_option maxRecDepth 100000
set_option maxHeartbeats 40000000
namespace Go.Proofs.YtgmflecelnefcaaGreat
open Go.Lib (hid)
open Go.RowKit
def NFO (B:Nat) (w:World) (b:Nat):Prop:=B≤b∧b<w.heap.size∧∀o,w.frozen? ⟨b,o,none⟩=false
def NFB (B:Nat) (w:World) (b:Nat):Prop:=B≤b∧b<w.heap.size∧TyI w b
theorem NFB.low {B B':Nat} {w:World} {b:Nat} (h:NFB B w b) (hB:B'≤B):NFB B' w b:=⟨Nat.le_trans hB h.1,h.2⟩
theorem NFB.o {B:Nat} {w:World} {b:Nat} (h:NFB B w b):NFO B w b:=⟨h.1,h.2.1,h.2.2.live⟩
theorem NFB.same {B:Nat} {w w':World} {b:Nat} (h:NFB B w b) (e:w'.heap[b]?=w.heap[b]?):NFB B w' b:=
 ⟨h.1,vIe e h.2.1,h.2.2.same e⟩
def Rdr.nf {α:Type} (R:Rdr α) (B:Nat):Rdr α where
 n:=R.n
 rd:=fun w F vs a=>R.rd w (fun b=>F b∧NFB B w b) vs a
 len:=fun h=>R.len h
 one:=fun h=>R.one h
 keep:=fun h hb hF=>R.keep h (fun b g=>hb b g.1) (fun b g=>⟨hF b g.1,g.2.same (hb b g.1)⟩)
section
variable {α:Type} {R:Rdr α} {w w':World} {B:Nat} {e:TypeId} {A:Option Addr} {n c:Nat} {xs:List α} {F:Nat→Prop}
theorem ROwn.readN (h:ROwn (R.nf B) w B e (.slice A n c) xs):RSl R w (NFO B w) A n c xs:=by
 obtain ⟨vs,h1,h2⟩:=h
 rcases h1.2 with ⟨hv,hn⟩|⟨g,cap,cur,hv,hB,hh,hnc,hm,hs,ht⟩
 · injection hv with e1 e2 e3
   subst e1 e2 e3;exact ⟨hn,Nat.le_refl _,Nat.zero_le _,fun _=>rfl,fun h=>absurd h (by omega)⟩
 · injection hv with e1 e2 e3
   subst e1 e2 e3
   have hg:g<w.heap.size:=by
    rcases Nat.lt_or_ge g w.heap.size with h'|h'
    · exact h'
    · rw [Array.getElem?_eq_none h'] at hh;cases hh
   refine ⟨rfl,hnc,hm,fun e=>(by cases e),fun hn=>⟨g,0,rfl,⟨hB,hg,fun o=>by simp [World.frozen?,hh]⟩,hg,fun j x hx=>?_⟩⟩;obtain ⟨us,g1,g2⟩:=h2.at_ j x hx;refine ⟨us,R.keep g1 (fun _ _=>rfl) (fun b hb=>hb.2.o),fun i v hv=>?_⟩;have hi:=g2 i v hv;rw [←ht] at hi
   have hlt:j * R.n+i<xs.length * R.n:=by
    have:=(List.getElem?_eq_some_iff.1 hi).1
    rw [List.length_take] at this;have e:(R.nf B).n=R.n:=rfl;rw [e] at this;omega
   rw [List.getElem?_take,if_pos (show j * (R.nf B).n+i<xs.length * (R.nf B).n from hlt)] at hi;rw [Nat.zero_add];simp only [World.cell?,hh];simpa [Rdr.nf] using hi
theorem ROwn.readT (h:ROwn (R.nf B) w B e (.slice A n c) xs) (he:e=3∨e=33):RSl R w (NFB B w) A n c xs:=by
 obtain ⟨h1,h2,h3,h4,h5⟩:=h.readN;refine ⟨h1,h2,h3,h4,fun hn=>?_⟩;obtain ⟨b,off,e1,g1,g2,g3⟩:=h5 hn
 have hb:NFB B w b:=by
  obtain ⟨vs,o1,_⟩:=h
  rcases o1.2 with ⟨hv,hn0⟩|⟨g,cap,cur,hv,hB,hh,_⟩
  · injection hv with e2 e3;omega
  · injection hv with e2
    rw [e1] at e2
    injection e2 with e2
    injection e2 with e2 _
    subst e2;exact ⟨hB,g2,cur,e,hh,he⟩
 obtain ⟨vs,o1,o2⟩:=h;refine ⟨b,off,e1,hb,g2,fun j x hx=>?_⟩;obtain ⟨us,k1,k2⟩:=o2.at_ j x hx;obtain ⟨us2,l1,l2⟩:=g3 j x hx
 rcases o1.2 with ⟨hv,hn0⟩|⟨g,cap,cur,hv,hB,hh,hnc,hm,hs,ht⟩
 · injection hv with e2 e3;omega
 · injection hv with e2 e3
   subst e3;rw [e1] at e2
   injection e2 with e2
   injection e2 with e2 e4
   subst e2 e4;refine ⟨us,R.keep k1 (fun _ _=>rfl) (fun b hb=>hb.2),fun i v hv=>?_⟩;have hi:=k2 i v hv;rw [←ht] at hi
   have hlt:j * R.n+i<xs.length * R.n:=by
    have:=(List.getElem?_eq_some_iff.1 hi).1
    rw [List.length_take] at this;have e:(R.nf B).n=R.n:=rfl;rw [e] at this;omega
   rw [List.getElem?_take,if_pos (show j * (R.nf B).n+i<xs.length * (R.nf B).n from hlt)] at hi;rw [Nat.zero_add];simp only [World.cell?,hh];simpa [Rdr.nf] using hi
theorem RdAll.lowN {B':Nat} (hB:B'≤B):∀{xs:List α} {vs:List Value},RdAll (R.nf B) w F vs xs→RdAll (R.nf B') w F vs xs
 | [],_,h=>h
 |_ :: _,_,⟨us,ws,e,h1,h2⟩=>⟨us,ws,e,R.keep h1 (fun _ _=>rfl) (fun _ g=>⟨g.1,g.2.low hB⟩),h2.lowN hB⟩
theorem ROwn.lowN {B':Nat} {v:Value} (h:ROwn (R.nf B) w B e v xs) (hB:B'≤B):ROwn (R.nf B') w B' e v xs:=by
 obtain ⟨vs,h1,h2⟩:=h;refine ⟨vs,⟨h1.1,?_⟩,h2.lowN hB⟩
 rcases h1.2 with h3|⟨g,cap,cur,hv,hg,r⟩
 · exact .inl h3
 · exact .inr ⟨g,cap,cur,hv,Nat.le_trans hB hg,r⟩
theorem RdAll.keepN {F F':Nat→Prop} (hb:∀b,F b→B≤b→w'.heap[b]?=w.heap[b]?) (hF:∀b,F b→F' b):∀{xs:List α} {vs:List Value},RdAll (R.nf B) w F vs xs→RdAll (R.nf B) w' F' vs xs
 | [],_,h=>h
 |_ :: _,_,⟨us,ws,e,h1,h2⟩=>⟨us,ws,e,R.keep h1 (fun b g=>hb b g.1 g.2.1) (fun b g=>⟨hF b g.1,g.2.same (hb b g.1 g.2.1)⟩),h2.keepN hb hF⟩
theorem ROwn.keepN {v:Value} (h:ROwn (R.nf B) w B e v xs) (hb:∀b,B≤b→b<w.heap.size→w'.heap[b]?=w.heap[b]?) (hs:w.heap.size≤w'.heap.size):ROwn (R.nf B) w' B e v xs:=by
 obtain ⟨vs,h1,h2⟩:=h;refine ⟨vs,⟨h1.1,?_⟩,h2.keepN (fun b g hB=>hb b hB g.1) (fun b g=>⟨Nat.lt_of_lt_of_le g.1 hs,g.2⟩)⟩
 rcases h1.2 with h3|⟨g,cap,cur,hv,hB,hh,hnc,hm,hsz,ht⟩
 · exact .inl h3
 · refine .inr ⟨g,cap,cur,hv,hB,?_,hnc,hm,hsz,ht⟩
   rw [hb g hB (by
    rcases Nat.lt_or_ge g w.heap.size with h'|h'
    · exact h'
    · rw [Array.getElem?_eq_none h'] at hh;cases hh)]
   exact hh
theorem RSl.flat (hf:∀w F F' vs a,R.rd w F vs a→R.rd w F' vs a) (h:RSl R w F A n c xs):RSl (R.nf B) w F A n c xs:=
 ⟨h.1,h.2.1,h.2.2.1,h.2.2.2.1,fun hn=>by
   obtain ⟨b,off,e,h1,h2,h3⟩:=h.2.2.2.2 hn
   exact ⟨b,off,e,h1,h2,fun j x hx=>by obtain ⟨vs,g1,g2⟩:=h3 j x hx;exact ⟨vs,hf _ _ _ _ _ g1,g2⟩⟩⟩
end
def Desc (P:Program) (e:TypeId) (n:Nat):Prop:=∃i z,P.info? e=some i∧i.zero=some z∧i.size=n∧i.bytes≤1000∧z.cells.size=n
theorem Desc.of {P:Program} {e:TypeId} {n:Nat} (h:(P.info? e).map (fun i=>(decide (i.bytes≤1000),i.size,i.zero.map (fun z=>z.cells.size)))=some (true,n,some n)):Desc P e n:=by
 cases hi:P.info? e with
 |none=>rw [hi] at h;cases h
 |some i=>
  rw [hi] at h;simp only [Option.map_some,Option.some.injEq,Prod.mk.injEq] at h;obtain ⟨h1,h2,h3⟩:=h
  cases hz:i.zero with
  |none=>rw [hz] at h3;cases h3
  |some z=>
   rw [hz] at h3;exact ⟨i,z,hi,hz,h2,of_decide_eq_true h1,by simpa using h3⟩
theorem vCx {P:Program} {α:Type} (R:Rdr α) {w:World} {ops:Array Oper} {rest:List Oper} {o:Oper} {a:Act} {Q:Exit→Act→World→Prop} (hgd:o.guard=none) (s x:Operand) (t e:TypeId) (ht:P.underlying t=some (.slice e)) (hd:Desc P e R.n) (hR:0<R.n)
 (ho:o.op=.call {callee:=.builtin .append,args:=#[s,x],argTypes:=#[t,t]}) (base:Nat) (v:Value) (xs:List α) (hown:ROwn R w base e v xs)
 (F:Nat→Prop) (A:Option Addr) (m c:Nat) (ys:List α) (hy:RSl R w F A m c ys) (hF:∀b,F b→vFh w v b) (hn:xs.length+m≤100000) (hbase:base≤w.heap.size)
 (hs:a.eval s=v) (hx:a.eval x=.slice A m c)
 (h:∀v' w',ROwn R w' base e v' (xs++ys)→Below base w w'→wpList P ops Q rest (a.put o.dst v') w'):wpList P ops Q (o :: rest) a w:=by
 obtain ⟨i,z,hi,hz,hsize,hb,hzs⟩:=hd;refine wpList_rapps R hgd s x t ho base e i z i.bytes ht hi hz hsize rfl hzs hR v xs hown F A m c ys hy hF (by unfold maxLen;omega) ?_ hbase hs hx h;exact Nat.le_trans (Nat.mul_le_mul hn hb) (by decide)
theorem vDv {P:Program} {α:Type} (R:Rdr α) {w0:World} {ops:Array Oper} {rest:List Oper} {o:Oper} {a:Act} {Q:Exit→Act→World→Prop} (hgd:o.guard=none) (s x:Operand) (t e:TypeId) (ht:P.underlying t=some (.slice e)) (hd:Desc P e R.n) (hR:0<R.n)
 (ho:o.op=.call {callee:=.builtin .append,args:=#[s,x],argTypes:=#[t,t]}) (base:Nat) (v:Value) (xs:List α) (hown:ROwn R w0 base e v xs)
 (y:α) (cells:Array Value) (F:Nat→Prop) (hy:R.rd w0 F cells.toList y) (hF:∀b,F b→vFh w0 v b) (hn:xs.length+1≤100000) (hbase:base≤w0.heap.size)
 (hs:a.eval s=v) (hx:a.eval x=.slice (some ⟨w0.heap.size,0,none⟩) 1 1)
 (h:∀v' w',ROwn R w' base e v' (xs++[y])→Below base w0 w'→wpList P ops Q rest (a.put o.dst v') w'):wpList P ops Q (o :: rest) a (w0.alloc (.cells cells e)):=by
 obtain ⟨i,z,hi,hz,hsize,hb,hzs⟩:=hd;refine wpList_rapp R hgd s x t ho base e i z i.bytes ht hi hz hsize rfl hzs hR v xs hown y cells F hy hF w0.heap.size rfl (by unfold maxLen;omega) ?_ hbase hs hx h;exact Nat.le_trans (Nat.mul_le_mul hn hb) (by decide)
def GotR {α:Type} (R:Rdr α) (xs:List α) (w:World) (e:Ending) (w':World):Prop:=∃t:Sl3,e=.returned (.slice t.A t.n t.c)∧RSl R w' (NFB w.heap.size w') t.A t.n t.c xs∧Below w.heap.size w w'
def GotO {α:Type} (R:Rdr α) (T:TypeId) (xs:List α) (w:World) (e:Ending) (w':World):Prop:=∃t:Sl3,e=.returned (.slice t.A t.n t.c)∧ROwn (R.nf w.heap.size) w' w.heap.size T (.slice t.A t.n t.c) xs∧Below w.heap.size w w'
theorem tclone2 (l:List UInt8) (w:World) (hs:l.length≤140737488351232):Calls Tryz.prog 141 #[.string (str l)] w fun e w'=>e=.returned (.string (str l))∧Below w.heap.size w w':=by
 have hz:(str l).size≤281474976710656:=by rw [vBa];omega
 go_enter Tryz.func141,Tryz.ntmps141
 go_wp2_with (go_at_call 177;refine (Tryz.stringslite_Clone (str l) _ hz).mono ?_;rintro e w1 ⟨rfl,hb1⟩);go_ret;exact ⟨rfl,hb1⟩
theorem desc_int:Desc Tryz.prog 3 1:=Desc.of (by kernel_rfl)
theorem cl_int (s:Sl3) (xs:List Int) (w:World) (h:RSl (Rdr.int .i64) w (vAp w) s.A s.n s.c xs) (hz:xs.length≤1000):Calls Tryz.prog 142 #[.slice s.A s.n s.c] w (GotR (Rdr.int .i64) xs w):=by
 obtain ⟨A,n,c⟩:=s;dsimp only at h ⊢;have hlen:=h.len
 rcases A with _|ad
 · have hn0:n=0:=by
    have hc:=h.2.2.2.1 rfl
    have:=h.le
    omega
   subst hn0;obtain rfl:xs=[]:=List.eq_nil_of_length_eq_zero hlen;clear h hlen
   have hq:=fun w=>Lib.run_eql_slice_nil (P:=Tryz.prog) w 34 3 none 0 c 0 0 Tryz.underlying34
   go_enter Tryz.func142,Tryz.ntmps142
   go_wp2;go_ret;exact ⟨Sl3.nil,rfl,RSl.nil,Below.refl _ _⟩
 · have HS:=hid h
   have LN:=hid hlen;have HZ:=hid hz;clear h hlen hz
   have hq:=fun w=>Lib.run_eql_slice_nil (P:=Tryz.prog) w 34 3 (some ad) n c 0 0 Tryz.underlying34
   go_enter Tryz.func142,Tryz.ntmps142
   go_wp2_with (at_builtin;(refine vCx ((Rdr.int .i64).nf w.heap.size) rfl (.tmp 5) (.tmp 6) 34 3 Tryz.underlying34 desc_int (show 0<1 by decide) rfl w.heap.size _ [] (ROwn.lit0 w w.heap.size 3 (Nat.le_refl _)) (vAp w) (some ad) n c xs ?hy ?hF ?h1 ?h2 ?hs ?hx ?_);(case hy=>exact (HS.out.keep (fun b hb=>Below.heap_alloc w _ b hb) (fun _ h=>h)).flat (fun _ _ _ _ _ h=>h));(case hF=>exact fun b hb=>⟨by (have h3:b<w.heap.size:=hb;simp;omega),fun e=>by (have e2:w.heap.size=b:=Option.some.inj e;have h3:b<w.heap.size:=hb;omega)⟩);(case h1=>(have:=LN.out;have:=HZ.out;simp;omega));(case h2=>simp);(case hs=>rfl);(case hx=>rfl);intro v2 w2 o2 b2;obtain ⟨A2,c2,rfl⟩:=o2.shape;have O2:=hid o2;have B2:=hid ((vAc w (.cells #[] 3)).trans b2);clear o2 b2)
   go_ret;exact ⟨⟨A2,_,c2⟩,rfl,O2.out.readT (.inl rfl),B2.out⟩
theorem desc_uint32:Desc Tryz.prog 33 1:=Desc.of (by kernel_rfl)
theorem cl_uint32 (s:Sl3) (xs:List Int) (w:World) (h:RSl (Rdr.int .u32) w (vAp w) s.A s.n s.c xs) (hz:xs.length≤1000):Calls Tryz.prog 143 #[.slice s.A s.n s.c] w (GotR (Rdr.int .u32) xs w):=by
 obtain ⟨A,n,c⟩:=s;dsimp only at h ⊢;have hlen:=h.len
 rcases A with _|ad
 · have hn0:n=0:=by
    have hc:=h.2.2.2.1 rfl
    have:=h.le
    omega
   subst hn0;obtain rfl:xs=[]:=List.eq_nil_of_length_eq_zero hlen;clear h hlen
   have hq:=fun w=>Lib.run_eql_slice_nil (P:=Tryz.prog) w 35 33 none 0 c 0 0 Tryz.underlying35
   go_enter Tryz.func143,Tryz.ntmps143
   go_wp2;go_ret;exact ⟨Sl3.nil,rfl,RSl.nil,Below.refl _ _⟩
 · have HS:=hid h
   have LN:=hid hlen;have HZ:=hid hz;clear h hlen hz
   have hq:=fun w=>Lib.run_eql_slice_nil (P:=Tryz.prog) w 35 33 (some ad) n c 0 0 Tryz.underlying35
   go_enter Tryz.func143,Tryz.ntmps143
   go_wp2_with (at_builtin;(refine vCx ((Rdr.int .u32).nf w.heap.size) rfl (.tmp 5) (.tmp 6) 35 33 Tryz.underlying35 desc_uint32 (show 0<1 by decide) rfl w.heap.size _ [] (ROwn.lit0 w w.heap.size 33 (Nat.le_refl _)) (vAp w) (some ad) n c xs ?hy ?hF ?h1 ?h2 ?hs ?hx ?_);(case hy=>exact (HS.out.keep (fun b hb=>Below.heap_alloc w _ b hb) (fun _ h=>h)).flat (fun _ _ _ _ _ h=>h));(case hF=>exact fun b hb=>⟨by (have h3:b<w.heap.size:=hb;simp;omega),fun e=>by (have e2:w.heap.size=b:=Option.some.inj e;have h3:b<w.heap.size:=hb;omega)⟩);(case h1=>(have:=LN.out;have:=HZ.out;simp;omega));(case h2=>simp);(case hs=>rfl);(case hx=>rfl);intro v2 w2 o2 b2;obtain ⟨A2,c2,rfl⟩:=o2.shape;have O2:=hid o2;have B2:=hid ((vAc w (.cells #[] 33)).trans b2);clear o2 b2)
   go_ret;exact ⟨⟨A2,_,c2⟩,rfl,O2.out.readT (.inr rfl),B2.out⟩
theorem desc_link:Desc Tryz.prog 84 3:=Desc.of (by kernel_rfl)
theorem cl_link (s:Sl3) (xs:List LinkV) (w:World) (h:RSl (linkR) w (vAp w) s.A s.n s.c xs) (hz:xs.length≤1000):Calls Tryz.prog 99 #[.slice s.A s.n s.c] w (GotO (linkR) 84 xs w):=by
 obtain ⟨A,n,c⟩:=s;dsimp only at h ⊢;have hlen:=h.len
 rcases A with _|ad
 · have hn0:n=0:=by
    have hc:=h.2.2.2.1 rfl
    have:=h.le
    omega
   subst hn0;obtain rfl:xs=[]:=List.eq_nil_of_length_eq_zero hlen;clear h hlen
   have hq:=fun w=>Lib.run_eql_slice_nil (P:=Tryz.prog) w 24 84 none 0 c 0 0 Tryz.underlying24
   go_enter Tryz.func99,Tryz.ntmps99
   go_wp2;go_ret;exact ⟨Sl3.nil,rfl,ROwn.nil _ _ _,Below.refl _ _⟩
 · have HS:=hid h
   have LN:=hid hlen;have HZ:=hid hz;clear h hlen hz
   have hq:=fun w=>Lib.run_eql_slice_nil (P:=Tryz.prog) w 24 84 (some ad) n c 0 0 Tryz.underlying24
   go_enter Tryz.func99,Tryz.ntmps99
   go_wp2_with (at_builtin;(refine vCx ((linkR).nf w.heap.size) rfl (.tmp 5) (.tmp 6) 24 84 Tryz.underlying24 desc_link (show 0<3 by decide) rfl w.heap.size _ [] (ROwn.lit0 w w.heap.size 84 (Nat.le_refl _)) (vAp w) (some ad) n c xs ?hy ?hF ?h1 ?h2 ?hs ?hx ?_);(case hy=>exact (HS.out.keep (fun b hb=>Below.heap_alloc w _ b hb) (fun _ h=>h)).flat (fun _ _ _ _ _ h=>h));(case hF=>exact fun b hb=>⟨by (have h3:b<w.heap.size:=hb;simp;omega),fun e=>by (have e2:w.heap.size=b:=Option.some.inj e;have h3:b<w.heap.size:=hb;omega)⟩);(case h1=>(have:=LN.out;have:=HZ.out;simp;omega));(case h2=>simp);(case hs=>rfl);(case hx=>rfl);intro v2 w2 o2 b2;obtain ⟨A2,c2,rfl⟩:=o2.shape;have O2:=hid o2;have B2:=hid ((vAc w (.cells #[] 84)).trans b2);clear o2 b2)
   go_ret;exact ⟨⟨A2,_,c2⟩,rfl,O2.out,B2.out⟩
theorem desc_stat:Desc Tryz.prog 89 4:=Desc.of (by kernel_rfl)
theorem cl_stat (s:Sl3) (xs:List StatV) (w:World) (h:RSl (statR) w (vAp w) s.A s.n s.c xs) (hz:xs.length≤1000):Calls Tryz.prog 102 #[.slice s.A s.n s.c] w (GotO (statR) 89 xs w):=by
 obtain ⟨A,n,c⟩:=s;dsimp only at h ⊢;have hlen:=h.len
 rcases A with _|ad
 · have hn0:n=0:=by
    have hc:=h.2.2.2.1 rfl
    have:=h.le
    omega
   subst hn0;obtain rfl:xs=[]:=List.eq_nil_of_length_eq_zero hlen;clear h hlen
   have hq:=fun w=>Lib.run_eql_slice_nil (P:=Tryz.prog) w 26 89 none 0 c 0 0 Tryz.underlying26
   go_enter Tryz.func102,Tryz.ntmps102
   go_wp2;go_ret;exact ⟨Sl3.nil,rfl,ROwn.nil _ _ _,Below.refl _ _⟩
 · have HS:=hid h
   have LN:=hid hlen;have HZ:=hid hz;clear h hlen hz
   have hq:=fun w=>Lib.run_eql_slice_nil (P:=Tryz.prog) w 26 89 (some ad) n c 0 0 Tryz.underlying26
   go_enter Tryz.func102,Tryz.ntmps102
   go_wp2_with (at_builtin;(refine vCx ((statR).nf w.heap.size) rfl (.tmp 5) (.tmp 6) 26 89 Tryz.underlying26 desc_stat (show 0<4 by decide) rfl w.heap.size _ [] (ROwn.lit0 w w.heap.size 89 (Nat.le_refl _)) (vAp w) (some ad) n c xs ?hy ?hF ?h1 ?h2 ?hs ?hx ?_);(case hy=>exact (HS.out.keep (fun b hb=>Below.heap_alloc w _ b hb) (fun _ h=>h)).flat (fun _ _ _ _ _ h=>h));(case hF=>exact fun b hb=>⟨by (have h3:b<w.heap.size:=hb;simp;omega),fun e=>by (have e2:w.heap.size=b:=Option.some.inj e;have h3:b<w.heap.size:=hb;omega)⟩);(case h1=>(have:=LN.out;have:=HZ.out;simp;omega));(case h2=>simp);(case hs=>rfl);(case hx=>rfl);intro v2 w2 o2 b2;obtain ⟨A2,c2,rfl⟩:=o2.shape;have O2:=hid o2;have B2:=hid ((vAc w (.cells #[] 89)).trans b2);clear o2 b2)
   go_ret;exact ⟨⟨A2,_,c2⟩,rfl,O2.out,B2.out⟩
theorem desc_irb:Desc Tryz.prog 98 5:=Desc.of (by kernel_rfl)
theorem cl_irb (s:Sl3) (xs:List IrbV) (w:World) (h:RSl (irbR) w (vAp w) s.A s.n s.c xs) (hz:xs.length≤1000):Calls Tryz.prog 107 #[.slice s.A s.n s.c] w (GotO (irbR) 98 xs w):=by
 obtain ⟨A,n,c⟩:=s;dsimp only at h ⊢;have hlen:=h.len
 rcases A with _|ad
 · have hn0:n=0:=by
    have hc:=h.2.2.2.1 rfl
    have:=h.le
    omega
   subst hn0;obtain rfl:xs=[]:=List.eq_nil_of_length_eq_zero hlen;clear h hlen
   have hq:=fun w=>Lib.run_eql_slice_nil (P:=Tryz.prog) w 29 98 none 0 c 0 0 Tryz.underlying29
   go_enter Tryz.func107,Tryz.ntmps107
   go_wp2;go_ret;exact ⟨Sl3.nil,rfl,ROwn.nil _ _ _,Below.refl _ _⟩
 · have HS:=hid h
   have LN:=hid hlen;have HZ:=hid hz;clear h hlen hz
   have hq:=fun w=>Lib.run_eql_slice_nil (P:=Tryz.prog) w 29 98 (some ad) n c 0 0 Tryz.underlying29
   go_enter Tryz.func107,Tryz.ntmps107
   go_wp2_with (at_builtin;(refine vCx ((irbR).nf w.heap.size) rfl (.tmp 5) (.tmp 6) 29 98 Tryz.underlying29 desc_irb (show 0<5 by decide) rfl w.heap.size _ [] (ROwn.lit0 w w.heap.size 98 (Nat.le_refl _)) (vAp w) (some ad) n c xs ?hy ?hF ?h1 ?h2 ?hs ?hx ?_);(case hy=>exact (HS.out.keep (fun b hb=>Below.heap_alloc w _ b hb) (fun _ h=>h)).flat (fun _ _ _ _ _ h=>h));(case hF=>exact fun b hb=>⟨by (have h3:b<w.heap.size:=hb;simp;omega),fun e=>by (have e2:w.heap.size=b:=Option.some.inj e;have h3:b<w.heap.size:=hb;omega)⟩);(case h1=>(have:=LN.out;have:=HZ.out;simp;omega));(case h2=>simp);(case hs=>rfl);(case hx=>rfl);intro v2 w2 o2 b2;obtain ⟨A2,c2,rfl⟩:=o2.shape;have O2:=hid o2;have B2:=hid ((vAc w (.cells #[] 98)).trans b2);clear o2 b2)
   go_ret;exact ⟨⟨A2,_,c2⟩,rfl,O2.out,B2.out⟩
end Go.Proofs.YtgmflecelnefcaaGreat
