import Derived.Test.YtkpbbfehglihlaaGreatDoorDs10
import Derived.Test.YtkpbbfehglihlaaGreatDoorDs12
import Derived.Test.YtkpbbfehglihlaaGreatDoorDs18
import Derived.Test.YtkpbbfehglihlaaGreatDoorDs19
import Derived.Test.YtkpbbfehglihlaaGreatDoorDs01
import Derived.Test.YtkpbbfehglihlaaGreatDoorDs06
import Derived.WalkMore
import Derived.Deep.QuietTactic
set_option maxRecDepth 100000
set_option maxHeartbeats 40000000
namespace Go.Proofs.YtkpbbfehglihlaaGreatDoor
open Go.Lib (hid)
open Go.RowKit
theorem atK_place (dev v:Int):∀(xs:List DomV) (k:Nat),0≤atK xs dev v k→∃j,j<xs.length∧atK xs dev v k=((k+j:Nat):Int)∧(xs.getD j DomV.zero).dev=dev∧(xs.getD j DomV.zero).vlan=v
 | [],k,h=>absurd h (by simp [atK])
 |d :: r,k,h=>by
  unfold atK at h ⊢
  by_cases c:d.dev=dev∧d.vlan=v
  · refine ⟨0,by simp,?_,by simpa using c.1,by simpa using c.2⟩
    rw [if_pos c]
    rfl
  · rw [if_neg c] at h ⊢
    obtain ⟨j,h1,h2,h3,h4⟩:=atK_place dev v r (k+1) h;exact ⟨j+1,by simpa using h1,by rw [h2];congr 1;omega,by simpa using h3,by simpa using h4⟩
def mmL (N:NV) (d:Int):List Int:=if plB d (N.domains.length:Int)=true then ((List.range N.ports.length).filter (fun i=>decide ((N.ports.getD i PortV.zero).dev=(N.domains.getD d.toNat DomV.zero).dev) && vIk (N.ports.getD i PortV.zero) (N.domains.getD d.toNat DomV.zero).vlan)).map (fun (i:Nat)=>(i:Int)) else []
theorem wpList_iapps {w:World} {ops:Array Oper} {rest:List Oper} {o:Oper} {a:Act} {Q:Exit→Act→World→Prop} (hgd:o.guard=none) (s x:Operand)
 (ho:o.op=.call {callee:=.builtin .append,args:=#[s,x],argTypes:=#[34,34]}) (base:Nat) (v:Value) (xs:List Int) (hown:ROwn (Rdr.int .i64) w base 3 v xs)
 (F:Nat→Prop) (A:Option Addr) (m c:Nat) (ys:List Int) (hy:RSl (Rdr.int .i64) w F A m c ys) (hF:∀b,F b→vEz w v b) (hn:xs.length+m≤100000) (hbase:base≤w.heap.size)
 (hs:a.eval s=v) (hx:a.eval x=.slice A m c)
 (h:∀v' w',ROwn (Rdr.int .i64) w' base 3 v' (xs++ys)→Below base w w'→wpList Tryz.prog ops Q rest (a.put o.dst v') w'):wpList Tryz.prog ops Q (o :: rest) a w:=by
 have hi:=Tryz.info3
 cases he:Tryz.prog.info? 3 with
 |none=>rw [he] at hi;cases hi
 |some i=>
  rw [he] at hi;simp only [Option.map_some,Option.some.injEq,Prod.mk.injEq] at hi
  have hb2:i.bytes≤8:=by rw [hi.2.2];exact Nat.le_refl _
  refine vHx (Rdr.int .i64) hgd s x 34 ho base 3 i (.int .i64 0) i.bytes Tryz.underlying34 he hi.1 hi.2.1 rfl rfl (by decide) v xs hown F A m c ys hy hF (by unfold maxLen;omega) ?_ hbase hs hx h;exact Nat.le_trans (Nat.mul_le_mul (show xs.length+m≤100000 by omega) hb2) (by decide)
theorem own_one (w:World) (x:Int) (T:TypeId):RSl (Rdr.int .i64) (w.alloc (.cells #[.int .i64 x] T)) (fun b=>b=w.heap.size) (some ⟨w.heap.size,0,none⟩) 1 1 [x]:=by
 refine ⟨rfl,Nat.le_refl _,by unfold maxLen;omega,(fun h=>by cases h),fun _=>⟨w.heap.size,0,rfl,rfl,by simp,?_⟩⟩;intro j y hy
 match j,hy with
 |0,hy=>
  obtain rfl:x=y:=by simpa using hy
  refine ⟨[.int .i64 x],rfl,?_⟩;intro i v hv
  match i,hv with
  |0,hv=>
   obtain rfl:Value.int .i64 x=v:=by simpa using hv
   simp
  |i+1,hv=>simp at hv
 |j+1,hy=>simp at hy
def dvK:List DevV→List UInt8→Nat→Int
 | [],_,_=> -1
 |d :: r,s,k=>if d.name=s then (k:Int) else dvK r s (k+1)
def dvF (N:NV) (s:List UInt8):Int:=dvK N.devices s 0
def ptK:List PortV→Int→List UInt8→Nat→Int
 | [],_,_,_=> -1
 |d :: r,dev,s,k=>if d.dev=dev∧d.name=s then (k:Int) else ptK r dev s (k+1)
def ptF (N:NV) (dev:Int) (s:List UInt8):Int:=ptK N.ports dev s 0
def exN:NV:=⟨[⟨0,0,[97],0,0⟩],[⟨0,0,10,0,-1,[112],[]⟩],[],[⟨0,10,0,-1,0,[]⟩],[],[],[],[]⟩
theorem one_lt {i:Nat} (h:i<1):i=0:=by omega
theorem ex_ok:NetOk exN:=by
 refine ⟨by decide,by decide,by decide,by decide,by decide,by decide,by decide,by decide,⟨?_,?_⟩,?_,?_,⟨?_,?_,?_,?_⟩⟩
 · intro i hi
   obtain rfl:=one_lt hi;exact ⟨by decide,by decide,by decide,by decide,.inl rfl⟩
 · intro i hi
   obtain rfl:=one_lt hi
   exact fun j hj=>absurd hj (Nat.not_lt_zero _)
 · intro i hi
   obtain rfl:=one_lt hi;exact ⟨by decide,by decide,by decide,by decide,by decide,by decide,fun _=>by decide,fun j hj=>absurd hj (Nat.not_lt_zero _),.inl rfl⟩
 all_goals exact fun i hi=>absurd hi (Nat.not_lt_zero _)
theorem ex_sz:NvSz exN:=by
 refine ⟨by decide,by decide,by decide,by decide,by decide,by decide,by decide,by decide,?_,?_,?_,?_⟩
 · intro i hi
   obtain rfl:=one_lt hi
   decide
 · intro i hi
   obtain rfl:=one_lt hi
   decide
 all_goals exact fun i hi=>absurd hi (Nat.not_lt_zero _)
theorem rsl_one {α:Type} (R:Rdr α) (w:World) (F:Nat→Prop) (b:Nat) (vs:List Value) (x:α) (hF:F b) (hb:b<w.heap.size) (h:R.rd w F vs x) (hc:w.rangeAt b 0 vs):RSl R w F (some ⟨b,0,none⟩) 1 1 [x]:=by
 refine ⟨rfl,Nat.le_refl _,by unfold maxLen;omega,(fun h=>by cases h),fun _=>⟨b,0,rfl,hF,hb,?_⟩⟩;intro j y hy
 match j,hy with
 |0,hy=>
  obtain rfl:x=y:=by simpa using hy
  exact ⟨vs,h,by simpa using hc⟩
 |j+1,hy=>simp at hy
theorem vCa (w:World):NRead w (vAs w) NV.zero NSl3.nil:=⟨RSl.nil,RSl.nil,RSl.nil,RSl.nil,RSl.nil,RSl.nil,RSl.nil,RSl.nil⟩
def exS (b:Nat):NSl3:=⟨⟨some ⟨b,0,none⟩,1,1⟩,⟨some ⟨b+1,0,none⟩,1,1⟩,Sl3.nil,⟨some ⟨b+1+1,0,none⟩,1,1⟩,Sl3.nil,Sl3.nil,Sl3.nil,Sl3.nil⟩
theorem vEi {w:World} {b:Nat} {vs:List Value} {T:TypeId} (h:w.heap[b]?=some (.cells vs.toArray T)):w.rangeAt b 0 vs:=by
 intro i v hv;rw [Nat.zero_add,World.cell?,h];simpa using hv
theorem dvK_fst (s:List UInt8):∀(xs:List DevV) (k n:Nat),n=xs.length→(∃j,j<n∧dvK xs s k=((k+j:Nat):Int)∧((xs.getD j DevV.zero).name=s)∧∀i,i<j→¬((xs.getD i DevV.zero).name=s))∨(dvK xs s k= -1∧∀i,i<n→¬((xs.getD i DevV.zero).name=s))
 | [],k,n,h=>.inr ⟨rfl,fun i hi=>absurd hi (by simp at h;omega)⟩
 |d :: r,k,n,h=>by
  by_cases hd:d.name=s
  · exact .inl ⟨0,by simp at h;omega,by rw [dvK,if_pos hd];simp,hd,fun i hi=>absurd hi (by omega)⟩
  · rcases dvK_fst s r (k+1) r.length rfl with ⟨j,h1,h2,h3,h4⟩|⟨h1,h2⟩
    · refine .inl ⟨j+1,by simp at h;omega,by rw [dvK,if_neg hd,h2];congr 1;omega,by simpa using h3,fun i hi=>?_⟩
      match i with
      |0=>simpa using hd
      |i+1=>simpa using h4 i (by omega)
    · refine .inr ⟨by rw [dvK,if_neg hd,h1],fun i hi=>?_⟩
      match i with
      |0=>simpa using hd
      |i+1=>simpa using h2 i (by simp at h;omega)
theorem dvF_fst (N:NV) (s:List UInt8) (n:Nat) (hn:N.devices.length=n):IsFst (fun k=>decide ((N.devices.getD k DevV.zero).name=s)) n (dvF N s):=by
 rcases dvK_fst s N.devices 0 n hn.symm with ⟨j,h1,h2,h3,h4⟩|⟨h1,h2⟩
 · exact .inl ⟨j,h1,by unfold dvF;rw [h2];congr 1;omega,decide_eq_true h3,fun i hi=>decide_eq_false (h4 i hi)⟩
 · exact .inr ⟨h1,fun i hi=>decide_eq_false (h2 i hi)⟩
theorem ptK_fst (dev:Int) (s:List UInt8):∀(xs:List PortV) (k n:Nat),n=xs.length→(∃j,j<n∧ptK xs dev s k=((k+j:Nat):Int)∧((xs.getD j PortV.zero).dev=dev∧(xs.getD j PortV.zero).name=s)∧∀i,i<j→¬((xs.getD i PortV.zero).dev=dev∧(xs.getD i PortV.zero).name=s))∨(ptK xs dev s k= -1∧∀i,i<n→¬((xs.getD i PortV.zero).dev=dev∧(xs.getD i PortV.zero).name=s))
 | [],k,n,h=>.inr ⟨rfl,fun i hi=>absurd hi (by simp at h;omega)⟩
 |d :: r,k,n,h=>by
  by_cases hd:d.dev=dev∧d.name=s
  · exact .inl ⟨0,by simp at h;omega,by rw [ptK,if_pos hd];simp,hd,fun i hi=>absurd hi (by omega)⟩
  · rcases ptK_fst dev s r (k+1) r.length rfl with ⟨j,h1,h2,h3,h4⟩|⟨h1,h2⟩
    · refine .inl ⟨j+1,by simp at h;omega,by rw [ptK,if_neg hd,h2];congr 1;omega,by simpa using h3,fun i hi=>?_⟩
      match i with
      |0=>simpa using hd
      |i+1=>simpa using h4 i (by omega)
    · refine .inr ⟨by rw [ptK,if_neg hd,h1],fun i hi=>?_⟩
      match i with
      |0=>simpa using hd
      |i+1=>simpa using h2 i (by simp at h;omega)
theorem ptF_fst (N:NV) (dev:Int) (s:List UInt8) (n:Nat) (hn:N.ports.length=n):IsFst (fun k=>decide ((N.ports.getD k PortV.zero).dev=dev∧(N.ports.getD k PortV.zero).name=s)) n (ptF N dev s):=by
 rcases ptK_fst dev s N.ports 0 n hn.symm with ⟨j,h1,h2,h3,h4⟩|⟨h1,h2⟩
 · exact .inl ⟨j,h1,by unfold ptF;rw [h2];congr 1;omega,decide_eq_true h3,fun i hi=>decide_eq_false (h4 i hi)⟩
 · exact .inr ⟨h1,fun i hi=>decide_eq_false (h2 i hi)⟩
theorem device1_any (X:DevV) (l:List UInt8) (q:Nat) (w:World) (c1:w.cell? ⟨q,0,none⟩=some (.string (str l))):Calls Tryz.prog 63 #[.agg #[.int .i64 X.row,.int .i64 X.prio,.string (str X.name),.int .u64 X.mac,.int .u32 X.vtep],.pointer (some ⟨q,0,none⟩)] w fun e w'=>e=.returned (.bool (decide (X.name=l)))∧Below w.heap.size w w':=by
 have ql:q<w.heap.size:=World.block_lt_of_cell? w _ c1;obtain ⟨v,hv⟩:∃v,(X.name == l)=v:=⟨_,rfl⟩
 rw [show decide (X.name=l)=v by rw [←hv];by_cases g:X.name=l<;>simp [g]]
 go_enter Tryz.func63,Tryz.ntmps63
 go_wp2;go_ret;exact ⟨by first|rfl|simp [hv],vAc _ _⟩
theorem enters_device1:vBi Tryz.prog 63:=vBc Tryz.func63 (by kernel_rfl) rfl
theorem port1n_any (X:PortV) (s:Sl3) (dev:Int) (l:List UInt8) (q1 q2:Nat) (w:World) (c1:w.cell? ⟨q1,0,none⟩=some (.int .i64 dev)) (c2:w.cell? ⟨q2,0,none⟩=some (.string (str l))):Calls Tryz.prog 93 #[.agg #[.int .i64 X.row,.int .i64 X.dev,.int .i64 X.native,.int .i64 X.cost,.int .i64 X.link,.string (str X.name),.slice s.A s.n s.c],.pointer (some ⟨q1,0,none⟩),.pointer (some ⟨q2,0,none⟩)] w fun e w'=>e=.returned (.bool (decide (X.dev=dev∧X.name=l)))∧Below w.heap.size w w':=by
 have ql1:q1<w.heap.size:=World.block_lt_of_cell? w _ c1;have ql2:q2<w.heap.size:=World.block_lt_of_cell? w _ c2
 by_cases t1:X.dev=dev
 rotate_left
 · have z1:(X.dev == dev)=false:=by simpa using t1
   rw [decide_eq_false (fun g=>t1 g.1)];clear t1
   go_enter Tryz.func93,Tryz.ntmps93
   go_wp2;go_ret;exact ⟨rfl,vAc _ _⟩
 have z1:(X.dev == dev)=true:=by simpa using t1
 obtain ⟨v,hv⟩:∃v,(X.name == l)=v:=⟨_,rfl⟩
 rw [show decide (X.dev=dev∧X.name=l)=v by rw [←hv];by_cases g:X.name=l<;>simp [g,t1]]
 clear t1
 go_enter Tryz.func93,Tryz.ntmps93
 go_wp2;go_ret;exact ⟨by first|rfl|simp [hv],vAc _ _⟩
theorem enters_port1n:vBi Tryz.prog 93:=vBc Tryz.func93 (by kernel_rfl) rfl
theorem first_dev (N:NV) (S:NSl3) (A:Option Addr) (n c:Nat) (g:Value) (Z:Int) (w:World) (h:NRead w (vAs w) N S) (hs:NvSz N) (hn:NetOk N)
 (IX:∀w',Below w.heap.size w w'→Calls Tryz.prog 119 #[.slice A n c,g] w' fun e w2=>e=.returned (.int .i64 Z)∧Below w'.heap.size w' w2):
 Calls Tryz.prog 62 #[vAx S,.slice A n c,g] w fun e w'=>e=.returned (.int .i64 Z)∧Below w.heap.size w w':=by
 have RT:=fun (w':World) (hb:Below w.heap.size w w')=>vCb N S w' (h.up hb) hs
 rw [vEb hn] at RT;unfold vAx at RT ⊢;have RT:=hid RT;have IX:=hid IX;clear h hs hn
 go_enter Tryz.func62,Tryz.ntmps62
 go_wp2_with (first
  |(go_at_call 23;(with_reducible refine (RT.out _ (vAc _ _)).mono ?_);rintro e wr ⟨rfl,hb⟩;have Y:=hid hb;have X:=hid (vAa (vAc _ _) hb);clear hb)
  |(go_at_call 119;(with_reducible refine (IX.out _ X.out).mono ?_);rintro e wi ⟨rfl,hb⟩;have X2:=hid (vAa X.out hb);clear hb))
 go_ret;exact ⟨rfl,X2.out⟩
theorem first_port (N:NV) (S:NSl3) (A:Option Addr) (n c:Nat) (g:Value) (Z:Int) (w:World) (h:NRead w (vAs w) N S) (hs:NvSz N) (hn:NetOk N)
 (IX:∀w',Below w.heap.size w w'→Calls Tryz.prog 160 #[.slice A n c,g] w' fun e w2=>e=.returned (.int .i64 Z)∧Below w'.heap.size w' w2):
 Calls Tryz.prog 92 #[vAx S,.slice A n c,g] w fun e w'=>e=.returned (.int .i64 Z)∧Below w.heap.size w w':=by
 have RT:=fun (w':World) (hb:Below w.heap.size w w')=>vCb N S w' (h.up hb) hs
 rw [vEb hn] at RT;unfold vAx at RT ⊢;have RT:=hid RT;have IX:=hid IX;clear h hs hn
 go_enter Tryz.func92,Tryz.ntmps92
 go_wp2_with (first
  |(go_at_call 23;(with_reducible refine (RT.out _ (vAc _ _)).mono ?_);rintro e wr ⟨rfl,hb⟩;have Y:=hid hb;have X:=hid (vAa (vAc _ _) hb);clear hb)
  |(go_at_call 160;(with_reducible refine (IX.out _ X.out).mono ?_);rintro e wi ⟨rfl,hb⟩;have X2:=hid (vAa X.out hb);clear hb))
 go_ret;exact ⟨rfl,X2.out⟩
theorem xndomain_any (N:NV) (S:NSl3) (dev v:Int) (w:World) (h:NRead w (vAs w) N S) (hs:NvSz N) (hn:NetOk N):Calls Tryz.prog 22 #[vAx S,.int .i64 dev,.int .i64 v] w fun e w'=>e=.returned (.int .i64 (atF N dev v))∧Below w.heap.size w w':=by
 have RT:=fun (w':World) (hb:Below w.heap.size w w')=>vCb N S w' (h.up hb) hs
 have FD:=fun (w':World) (hb:Below w.heap.size w w')=>find_any N S dev v w' (h.up hb)
 have KB:=hid (show ∀W,w.alloc (.cells (nA S) 31)=W→∀wx,Below W.heap.size W wx→(NF wx w.heap.size S) from fun W hW wx hx=>by
  have n:=((net_c1 S _ hW).1.below hx).1
  exact ⟨n 0 _ rfl,n 1 _ rfl,n 2 _ rfl,n 3 _ rfl,n 4 _ rfl,n 5 _ rfl,n 6 _ rfl,n 7 _ rfl⟩)
 rw [vEb hn] at RT;generalize atF N dev v=Z at *;unfold vAx at RT FD ⊢;have RT:=hid RT;have FD:=hid FD;clear h hs hn
 go_enter Tryz.func22,Tryz.ntmps22
 go_wp2_with (first
  |(go_at_call 23;(with_reducible refine (RT.out _ (vAc _ _)).mono ?_);rintro e wr ⟨rfl,hb⟩;have Y:=hid hb;have X:=hid (vAa (vAc _ _) hb);obtain ⟨f0,f1,f2,f3,f4,f5,f6,f7⟩:=KB.out _ rfl _ Y.out;clear hb)
  |(go_at_call 64;(with_reducible refine (FD.out _ X.out).mono ?_);rintro e wi ⟨rfl,hb⟩;have X2:=hid (vAa X.out hb);clear hb))
 go_ret;exact ⟨rfl,X2.out⟩
theorem xndevice_any (N:NV) (S:NSl3) (l:List UInt8) (w:World) (h:NRead w (vAs w) N S) (hs:NvSz N) (hn:NetOk N) (_hl:l.length≤9223372036854775807):Calls Tryz.prog 21 #[vAx S,.string (str l)] w fun e w'=>e=.returned (.int .i64 (dvF N l))∧Below w.heap.size w w':=by
 obtain ⟨W,hW⟩:∃W,(w.alloc (.cells (nA S) 31)).alloc (.cells #[.string (str l)] 9)=W:=⟨_,rfl⟩;have NC:=vIf S _ _ [.string (str l)] hW
 have FS:=first_dev N S S.dv.A S.dv.n S.dv.c (.func (.func 63) #[] #[.pointer (some ⟨w.heap.size+1,0,none⟩)]) (dvF N l) W (h.up NC.2.2) hs hn (fun w' hb=>
  idx_dev 63 #[.pointer (some ⟨w.heap.size+1,0,none⟩)] enters_device1 S.dv.A S.dv.n S.dv.c N.devices w' (vAn (vAn h.dv NC.2.2) hb) _ (fun k w2 hk hb2=>by
   rw [app1]
   exact device1_any _ l _ w2 (((NC.2.1.below hb).below hb2).1 0 _ rfl)) _ (dvF_fst N l S.dv.n h.dv.len))
 generalize dvF N l=Z at *;have B0:=hid NC.2.2;subst hW;unfold vAx at FS ⊢;have FS:=hid FS;clear h hs hn NC
 go_enter Tryz.func21,Tryz.ntmps21
 go_wp2_with (go_at_call 62;(with_reducible refine FS.out.mono ?_);rintro e wi ⟨rfl,hb⟩;have X2:=hid (vAa B0.out hb);clear hb);go_ret;exact ⟨rfl,X2.out⟩
theorem xnport_any (N:NV) (S:NSl3) (dev:Int) (l:List UInt8) (w:World) (h:NRead w (vAs w) N S) (hs:NvSz N) (hn:NetOk N) (_hl:l.length≤9223372036854775807):Calls Tryz.prog 28 #[vAx S,.int .i64 dev,.string (str l)] w fun e w'=>e=.returned (.int .i64 (ptF N dev l))∧Below w.heap.size w w':=by
 obtain ⟨W,hW⟩:∃W,((w.alloc (.cells (nA S) 31)).alloc (.cells #[.int .i64 dev] 3)).alloc (.cells #[.string (str l)] 9)=W:=⟨_,rfl⟩;have NC:=net_cs3 S _ _ _ [.int .i64 dev] [.string (str l)] hW
 have FS:=first_port N S S.pt.A S.pt.n S.pt.c (.func (.func 93) #[] #[.pointer (some ⟨w.heap.size+1,0,none⟩),.pointer (some ⟨w.heap.size+2,0,none⟩)]) (ptF N dev l) W (h.up NC.2.2.2) hs hn (fun w' hb=>
  idx_port 93 #[.pointer (some ⟨w.heap.size+1,0,none⟩),.pointer (some ⟨w.heap.size+2,0,none⟩)] enters_port1n S.pt.A S.pt.n S.pt.c N.ports w' (vAn (vAn h.pt NC.2.2.2) hb) _ (fun k s w2 hk hb2 _=>by
   rw [app12]
   exact port1n_any _ s dev l _ _ w2 (((NC.2.1.below hb).below hb2).1 0 _ rfl) (((NC.2.2.1.below hb).below hb2).1 0 _ rfl)) _ (ptF_fst N dev l S.pt.n h.pt.len))
 generalize ptF N dev l=Z at *;have B0:=hid NC.2.2.2;subst hW;unfold vAx at FS ⊢;have FS:=hid FS;clear h hs hn NC
 go_enter Tryz.func28,Tryz.ntmps28
 go_wp2_with (go_at_call 92;(with_reducible refine FS.out.mono ?_);rintro e wi ⟨rfl,hb⟩;have X2:=hid (vAa B0.out hb);clear hb);go_ret;exact ⟨rfl,X2.out⟩
def mmK (N:NV) (D:DomV) (k:Nat):List Int:=((List.range k).filter (fun i=>decide ((N.ports.getD i PortV.zero).dev=D.dev) && vIk (N.ports.getD i PortV.zero) D.vlan)).map (fun (i:Nat)=>(i:Int))
theorem mmK_more (N:NV) (D:DomV) (k:Nat):mmK N D (k+1)=mmK N D k++if (decide ((N.ports.getD k PortV.zero).dev=D.dev) && vIk (N.ports.getD k PortV.zero) D.vlan)=true then [(k:Int)] else []:=by
 unfold mmK;rw [List.range_succ,List.filter_append,List.map_append];congr 1
 by_cases g:(decide ((N.ports.getD k PortV.zero).dev=D.dev) && vIk (N.ports.getD k PortV.zero) D.vlan)=true
 · rw [if_pos g];simp only [List.filter,g,List.map]
 · rw [if_neg g];simp only [List.filter,Bool.eq_false_iff.2 g,List.map]
theorem mmK_len (N:NV) (D:DomV) (k:Nat):(mmK N D k).length≤k:=by
 unfold mmK;rw [List.length_map];exact Nat.le_trans (List.length_filter_le _ _) (by simp)
theorem ROwn.low {α:Type} {R:Rdr α} {w:World} {B B':Nat} {e:TypeId} {v:Value} {xs:List α} (h:ROwn R w B e v xs) (hB:B'≤B):ROwn R w B' e v xs:=by
 obtain ⟨vs,h1,h2⟩:=h;refine ⟨vs,⟨h1.1,?_⟩,h2⟩
 rcases h1.2 with h3|⟨g,cap,cur,hv,hg,r⟩
 · exact .inl h3
 · exact .inr ⟨g,cap,cur,hv,Nat.le_trans hB hg,r⟩
theorem xnmembers_own (N:NV) (S:NSl3) (d:Int) (w:World) (h:NRead w (vAs w) N S) (hs:NvSz N) (hn:NetOk N):Calls Tryz.prog 39 #[vAx S,.int .i64 d] w fun e w'=>∃A n c,e=.returned (.slice A n c)∧ROwn (Rdr.int .i64) w' w.heap.size 3 (.slice A n c) (mmL N d)∧Below w.heap.size w w':=by
 have RT:=fun (w':World) (hb:Below w.heap.size w w')=>vCb N S w' (h.up hb) hs
 rw [vEb hn] at RT;have HD:=hid h.dm;have HP:=hid h.pt;have hle:=h.dm.le;have hcap:=h.dm.cap;have hle2:=h.pt.le;have hcap2:=h.pt.cap;have dml:=h.dm.len;have ptl:=h.pt.len;have zpt:=hs.zpt;rw [ptl] at zpt
 have PD:=fun w'=>vHc d S.dm.A S.dm.n S.dm.c hle hcap w'
 obtain ⟨va,ha⟩:∃v,plB d (S.dm.n:Int)=v:=⟨_,rfl⟩;rw [ha] at PD;have HA:=hid ha
 have KB:=hid (show ∀W,w.alloc (.cells #[.slice S.dv.A S.dv.n S.dv.c,.slice S.pt.A S.pt.n S.pt.c,.slice S.lk.A S.lk.n S.lk.c,.slice S.dm.A S.dm.n S.dm.c,.slice S.st.A S.st.n S.st.c,.slice S.fl.A S.fl.n S.fl.c,.slice S.vr.A S.vr.n S.vr.c,.slice S.ir.A S.ir.n S.ir.c] 31)=W→∀wx,Below W.heap.size W wx→(wx.cell? ⟨w.heap.size,0,none⟩=some (.slice S.dv.A S.dv.n S.dv.c)∧wx.cell? ⟨w.heap.size,1,none⟩=some (.slice S.pt.A S.pt.n S.pt.c)∧wx.cell? ⟨w.heap.size,2,none⟩=some (.slice S.lk.A S.lk.n S.lk.c)∧wx.cell? ⟨w.heap.size,3,none⟩=some (.slice S.dm.A S.dm.n S.dm.c)∧wx.cell? ⟨w.heap.size,4,none⟩=some (.slice S.st.A S.st.n S.st.c)∧wx.cell? ⟨w.heap.size,5,none⟩=some (.slice S.fl.A S.fl.n S.fl.c)∧wx.cell? ⟨w.heap.size,6,none⟩=some (.slice S.vr.A S.vr.n S.vr.c)∧wx.cell? ⟨w.heap.size,7,none⟩=some (.slice S.ir.A S.ir.n S.ir.c))∧Below w.heap.size w wx from fun W hW wx hx=>by
  have NC:=net_c1 S _ hW;have n:=(NC.1.below hx).1
  exact ⟨⟨n 0 _ rfl,n 1 _ rfl,n 2 _ rfl,n 3 _ rfl,n 4 _ rfl,n 5 _ rfl,n 6 _ rfl,n 7 _ rfl⟩,NC.2.trans (hx.mono NC.2.size)⟩)
 have LL:=hid (show mmL N d=if va=true then mmK N (N.domains.getD d.toNat DomV.zero) S.pt.n else [] by unfold mmL mmK;rw [dml,ha,ptl]);generalize mmL N d=L at *;unfold vAx at RT ⊢;have RT:=hid RT;have PD:=hid PD;clear h hs hn dml ptl ha;generalize S.pt.A=PA at *
 go_enter Tryz.func39,Tryz.ntmps39
 go_upto_region 1 with fail
 obtain ⟨W,hW⟩:∃W,w.alloc (.cells #[.slice S.dv.A S.dv.n S.dv.c,.slice PA S.pt.n S.pt.c,.slice S.lk.A S.lk.n S.lk.c,.slice S.dm.A S.dm.n S.dm.c,.slice S.st.A S.st.n S.st.c,.slice S.fl.A S.fl.n S.fl.c,.slice S.vr.A S.vr.n S.vr.c,.slice S.ir.A S.ir.n S.ir.c] 31)=W:=⟨_,rfl⟩
 have ql:w.heap.size<W.heap.size:=by rw [←hW];simp
 have KQ:=hid (KB.out W hW);rw [hW];clear hW KB;obtain ⟨⟨f0,f1,f2,f3,f4,f5,f6,f7⟩,hB0⟩:=KQ.out W (Below.refl _ _);have B0:=hid hB0;clear hB0
 cases va with
 |false=>
  have E:=hid (show L=[] by rw [LL.out];rfl);go_wp2_with (first|(go_at_call 23;(with_reducible refine (RT.out _ B0.out).mono ?_);rintro e wr ⟨rfl,hb⟩;have Y:=hid hb;have X:=hid (vAa B0.out hb);obtain ⟨⟨f0,f1,f2,f3,f4,f5,f6,f7⟩,_⟩:=KQ.out _ Y.out;clear hb)|(go_at_call 110;(with_reducible refine (PD.out _).mono ?_);rintro e wp ⟨rfl,hwp⟩;subst hwp));go_ret;exact ⟨none,0,0,rfl,by rw [E.out];exact ROwn.nil _ _ _,X.out⟩
 |true=>
 obtain ⟨a1,a2⟩:=(vAw _ _).1 HA.out;obtain ⟨x,hx⟩:=Int.eq_ofNat_of_zero_le a1;subst hx
 have hxl:x<S.dm.n:=by omega
 have lx:(x:Int)<(S.dm.n:Int):=by omega
 obtain ⟨bd,od,vd,ed,_,hbd,⟨t,rfl,_⟩,rd⟩:=vAh HD.out x hxl DomV.zero;have RD:=vAb rd (B0.out.block bd hbd);have LE:=hid (show L=mmK N (N.domains.getD x DomV.zero) S.pt.n by rw [LL.out,if_pos rfl];rfl);clear LL;generalize N.domains.getD x DomV.zero=D at *;have p0:=RD 0 _ rfl;have p1:=RD 1 _ rfl;have p2:=RD 2 _ rfl;have p3:=RD 3 _ rfl;have p4:=RD 4 _ rfl;have p5:=RD 5 _ rfl;simp only [Nat.add_zero] at p0
 rw [show od+x * domR.n=od+x * 6 from rfl] at p0 p1 p2 p3 p4 p5;have hbd1:bd<W.heap.size:=Nat.lt_of_lt_of_le hbd B0.out.size;have PD2:=PD.out;have ED:=hid ed;have KD:=hid (show ∀wx,Below W.heap.size W wx→(wx.cell? ⟨bd,od+x * 6,none⟩=some (.int .i64 D.dev)∧wx.cell? ⟨bd,od+x * 6+1,none⟩=some (.int .i64 D.vlan)∧wx.cell? ⟨bd,od+x * 6+2,none⟩=some (.int .i64 D.vni)∧wx.cell? ⟨bd,od+x * 6+3,none⟩=some (.int .i64 D.irb)∧wx.cell? ⟨bd,od+x * 6+4,none⟩=some (.int .i64 D.row)∧wx.cell? ⟨bd,od+x * 6+5,none⟩=some (.slice t.A t.n t.c)) from fun wx hxx=>⟨(hxx.cell (p:=⟨bd,_,none⟩) hbd1).trans p0,(hxx.cell (p:=⟨bd,_,none⟩) hbd1).trans p1,(hxx.cell (p:=⟨bd,_,none⟩) hbd1).trans p2,(hxx.cell (p:=⟨bd,_,none⟩) hbd1).trans p3,(hxx.cell (p:=⟨bd,_,none⟩) hbd1).trans p4,(hxx.cell (p:=⟨bd,_,none⟩) hbd1).trans p5⟩)
 clear rd RD a1 a2 HA PD2 p0 p1 p2 p3 p4 p5 ed;go_wp2_with (first|(go_at_call 23;(with_reducible refine (RT.out _ B0.out).mono ?_);rintro e wr ⟨rfl,hb⟩;have Y:=hid hb;have X:=hid (vAa B0.out hb);obtain ⟨⟨f0,f1,f2,f3,f4,f5,f6,f7⟩,_⟩:=KQ.out _ Y.out;clear hb)|(go_at_call 110;(with_reducible refine (PD.out _).mono ?_);rintro e wp ⟨rfl,hwp⟩;subst hwp));have E0:=hid (show Below W.heap.size W wr from Y.out)
 go_loopw [5,21] (fun l i wr=>∃k:Nat,i=.int .i64 k∧k≤S.pt.n∧ROwn (Rdr.int .i64) wr W.heap.size 3 l (mmK N D k)∧Below W.heap.size W wr) (fun _ i _=>match i with| .int _ y=>(S.pt.n - y).toNat|_=>0)
 case atStart=>exact ⟨0,rfl,by omega,ROwn.nil _ _ _,E0.out⟩
 case round=>
  obtain ⟨k,rfl,hk,hown,hb⟩:=hrel;have OW:=hid hown;have Y1:=hid hb;obtain ⟨A,c,hsh⟩:=hown.shape;subst hsh;clear hown hb;rename World=>w3
  by_cases hlt:k<S.pt.n
  rotate_left
  · have lt2:¬(k:Int)<(S.pt.n:Int):=by omega
    obtain rfl:k=S.pt.n:=by omega
    have X1:=hid (KQ.out _ Y1.out).2;go_wp2;go_ret;exact ⟨A,_,c,rfl,by rw [LE.out];exact OW.out.low B0.out.size,X1.out⟩
  have lt2:(k:Int)<(S.pt.n:Int):=by omega
  obtain ⟨⟨f0,f1,f2,f3,f4,f5,f6,f7⟩,hX1⟩:=KQ.out _ Y1.out;have X1:=hid hX1;obtain ⟨b0,o0,vs,rfl,_,hb0,⟨s,rfl,l1⟩,r0⟩:=vAh HP.out k hlt PortV.zero;have R1:=vAb r0 (X1.out.block b0 hb0);have MM:=hid (mmK_more N D k);generalize N.ports.getD k PortV.zero=P at *;have d0:=R1 0 _ rfl;have d1:=R1 1 _ rfl;have d2:=R1 2 _ rfl;have d3:=R1 3 _ rfl;have d4:=R1 4 _ rfl;have d5:=R1 5 _ rfl;have d6:=R1 6 _ rfl
  simp only [Nat.add_zero] at d0;rw [show o0+k * portR.n=o0+k * 7 from rfl] at d0 d1 d2 d3 d4 d5 d6;have HS:=hid (fun (w':World) (hb:Below w.heap.size w w')=>has_any P s D t w' (vAn l1 hb));clear r0 R1 hX1 l1
  go_upto_region 7 with fail
  obtain ⟨w4,hw4⟩:∃w4,w3.alloc (.cells #[.int .i64 P.row,.int .i64 P.dev,.int .i64 P.native,.int .i64 P.cost,.int .i64 P.link,.string (str P.name),.slice s.A s.n s.c] 56)=w4:=⟨_,rfl⟩;have C4:=hid (show Cs w4 w3.heap.size [.int .i64 P.row,.int .i64 P.dev,.int .i64 P.native,.int .i64 P.cost,.int .i64 P.link,.string (str P.name),.slice s.A s.n s.c] from by rw [←hw4];exact Cs.new _ [.int .i64 P.row,.int .i64 P.dev,.int .i64 P.native,.int .i64 P.cost,.int .i64 P.link,.string (str P.name),.slice s.A s.n s.c] _)
  have Y4:=hid (show Below W.heap.size W w4 from by rw [←hw4];exact vAa Y1.out (vAc _ _));have O4:=hid (show ROwn (Rdr.int .i64) w4 W.heap.size 3 (.slice A (mmK N D k).length c) (mmK N D k) from by rw [←hw4];exact OW.out.below (vAc _ _));have h4:w3.heap.size<w4.heap.size:=C4.out.2;rw [hw4];clear hw4 f0 f1 f2 f3 f4 f5 f6 f7 d0 d1 d2 d3 d4 d5 d6;obtain ⟨v,hv⟩:∃v,(decide (P.dev=D.dev) && vIk P D.vlan)=v:=⟨_,rfl⟩
  have HS2:=HS.out;have M2:=MM.out;rw [hv] at HS2 M2;have HS:=hid HS2;have MM:=hid M2;clear HS2 M2 hv
  cases v
  all_goals
   refine vAe (fun wx=>Below w4.heap.size w4 wx) (by kernel_rfl) (by kernel_rfl) ((Below.refl _ _).drew) ?_
   repeat
    first
     |(refine Seq.pass rfl ?_;simp only [Act.put,List.setIfInBounds_toArray,List.set_cons_zero,List.set_cons_succ])
     |(refine Seq.run ?_ rfl (fun wx hx=>?_) ?_
       rotate_left
       · obtain ⟨⟨f0,f1,f2,f3,f4,f5,f6,f7⟩,hBx⟩:=KQ.out wx (vAa Y4.out hx)
         have cc:=(C4.out.below hx).1;have c0_:=cc 0 _ rfl;have c1_:=cc 1 _ rfl;have c2_:=cc 2 _ rfl;have c3_:=cc 3 _ rfl;have c4_:=cc 4 _ rfl;have c5_:=cc 5 _ rfl;have c6_:=cc 6 _ rfl;obtain ⟨p0,p1,p2,p3,p4,p5⟩:=KD.out wx (vAa Y4.out hx);rw [ED.out] at f3
         go_simp
         first
          |(refine StepRun.val ?_;exact hx)
          |(refine StepRun.call (v:=.bool true) ?_;(with_reducible refine Calls.mono (HS.out _ hBx) ?_);rintro e w' ⟨rfl,hb⟩;exact ⟨rfl,vAa hx hb⟩)
          |(refine StepRun.call (v:=.bool false) ?_;(with_reducible refine Calls.mono (HS.out _ hBx) ?_);rintro e w' ⟨rfl,hb⟩;exact ⟨rfl,vAa hx hb⟩)
       simp only [Act.put,List.setIfInBounds_toArray,List.set_cons_zero,List.set_cons_succ])
   refine Seq.last (fun w7 h7=>?_);have O7:=hid (O4.out.below h7);have Y7:=hid (vAa Y4.out h7)
  · go_wp2
    go_roundw
    case rel=>exact ⟨k+1,by simp,by omega,by rw [MM.out];simpa using O7.out,Y7.out⟩
    case measure=>simp only [];omega
  · have LN:=hid (mmK_len N D k)
    go_wp2_with ((with_reducible refine wpList_iapps rfl (.tmp 33) (.tmp 35) rfl W.heap.size _ _ (O7.out.below ((Below.refl _ _).alloc (Nat.le_refl _) _)) (fun b=>b=w7.heap.size) (some ⟨w7.heap.size,0,none⟩) 1 1 [(k:Int)] (own_one w7 (k:Int) _) ?hF ?h1 ?h2 ?hs ?hx ?_);(case hF=>exact fun b hb=>⟨by (subst hb;simp),fun e=>by (have:=(O7.out.lt b e).2;subst hb;omega)⟩);(case h1=>(have:=LN.out;omega));(case h2=>(have:=Y7.out.size;simp;omega));(case hs=>rfl);(case hx=>rfl);intro v8 w8 o8 b8;obtain ⟨A8,c8,rfl⟩:=o8.shape;have O8:=hid o8;have B8:=hid b8;clear o8 b8)
    go_roundw
    case rel=>exact ⟨k+1,by simp,by omega,by rw [MM.out];simpa using O8.out,Y7.out.trans (((vAc _ _).mono Y7.out.size).trans B8.out)⟩
    case measure=>simp only [];omega
open Go.Lib (byteCells)
open Go.Lib (byteCells)
open Go.Lib (byteCells)
def os (E:Int) (ps:List (List UInt8)):List (List UInt8):=if E=0 then ps else []
open Go.Lib (byteCells)
end Go.Proofs.YtkpbbfehglihlaaGreatDoor
