import Derived.Test.YtnpembgchmmbjaaGreatLb12
import Derived.Test.YtnpembgchmmbjaaGreatLb18
import Derived.Test.YtnpembgchmmbjaaGreatLb10
import Derived.Test.YtnpembgchmmbjaaGreatLb19
set_option maxRecDepth 100000
set_option maxHeartbeats 40000000
namespace Go.Proofs.YtnpembgchmmbjaaGreat
open Go.RowKit
def dvK:List DevV→List UInt8→Nat→Int
 | [],_,_=> -1
 |d :: r,s,k=>if d.name=s then (k:Int) else dvK r s (k+1)
def dvF (N:NV) (s:List UInt8):Int:=dvK N.devices s 0
def ptK:List PortV→Int→List UInt8→Nat→Int
 | [],_,_,_=> -1
 |d :: r,dev,s,k=>if d.dev=dev∧d.name=s then (k:Int) else ptK r dev s (k+1)
def ptF (N:NV) (dev:Int) (s:List UInt8):Int:=ptK N.ports dev s 0
theorem one_lt {i:Nat} (h:i<1):i=0:=by omega
theorem rsl_one {α:Type} (R:Rdr α) (w:World) (F:Nat→Prop) (b:Nat) (vs:List Value) (x:α) (hF:F b) (hb:b<w.heap.size) (h:R.rd w F vs x) (hc:w.rangeAt b 0 vs):RSl R w F (some ⟨b,0,none⟩) 1 1 [x]:=by
 refine ⟨rfl,Nat.le_refl _,by unfold maxLen;omega,(fun h=>by cases h),fun _=>⟨b,0,rfl,hF,hb,?_⟩⟩;intro j y hy
 match j,hy with
 |0,hy=>
  obtain rfl:x=y:=by simpa using hy
  exact ⟨vs,h,by simpa using hc⟩
 |j+1,hy=>simp at hy
theorem vCd (w:World):NRead w (vAw w) NV.zero NSl3.nil:=⟨RSl.nil,RSl.nil,RSl.nil,RSl.nil,RSl.nil,RSl.nil,RSl.nil,RSl.nil⟩
theorem range_list {w:World} {b:Nat} {vs:List Value} {T:TypeId} (h:w.heap[b]?=some (.cells vs.toArray T)):w.rangeAt b 0 vs:=by
 intro i v hv;rw [Nat.zero_add,World.cell?,h];simpa using hv
theorem dvK_fst (s:List UInt8):∀(xs:List DevV) (k n:Nat),n=xs.length→(∃j,j<n∧dvK xs s k=((k+j:Nat):Int)∧((xs.getD j DevV.zero).name=s)∧∀i,i<j→¬((xs.getD i DevV.zero).name=s))∨(dvK xs s k= -1∧∀i,i<n→¬((xs.getD i DevV.zero).name=s))
 | [],k,n,h=>.inr ⟨rfl,fun i hi=>absurd hi (by simp at h;omega)⟩
 |d :: r,k,n,h=>by
  by_cases hd:d.name=s
  · exact .inl ⟨0,by simp at h;omega,by rw [dvK,if_pos hd];simp,hd,fun i hi=>absurd hi (by omega)⟩
  · rcases dvK_fst s r (k+1) r.length rfl with ⟨j,h1,h2,h3,h4⟩|⟨h1,h2⟩
    · refine .inl ⟨j+1,by simp at h;omega,by rw [dvK,if_neg hd,h2];congr 1;omega,by simpa using h3,fun i hi=>?_⟩
      match i with
      |0=>simpa using hd
      |i+1=>simpa using h4 i (by omega)
    · refine .inr ⟨by rw [dvK,if_neg hd,h1],fun i hi=>?_⟩
      match i with
      |0=>simpa using hd
      |i+1=>simpa using h2 i (by simp at h;omega)
theorem dvF_fst (N:NV) (s:List UInt8) (n:Nat) (hn:N.devices.length=n):IsFst (fun k=>decide ((N.devices.getD k DevV.zero).name=s)) n (dvF N s):=by
 rcases dvK_fst s N.devices 0 n hn.symm with ⟨j,h1,h2,h3,h4⟩|⟨h1,h2⟩
 · exact .inl ⟨j,h1,by unfold dvF;rw [h2];congr 1;omega,decide_eq_true h3,fun i hi=>decide_eq_false (h4 i hi)⟩
 · exact .inr ⟨h1,fun i hi=>decide_eq_false (h2 i hi)⟩
theorem ptK_fst (dev:Int) (s:List UInt8):∀(xs:List PortV) (k n:Nat),n=xs.length→(∃j,j<n∧ptK xs dev s k=((k+j:Nat):Int)∧((xs.getD j PortV.zero).dev=dev∧(xs.getD j PortV.zero).name=s)∧∀i,i<j→¬((xs.getD i PortV.zero).dev=dev∧(xs.getD i PortV.zero).name=s))∨(ptK xs dev s k= -1∧∀i,i<n→¬((xs.getD i PortV.zero).dev=dev∧(xs.getD i PortV.zero).name=s))
 | [],k,n,h=>.inr ⟨rfl,fun i hi=>absurd hi (by simp at h;omega)⟩
 |d :: r,k,n,h=>by
  by_cases hd:d.dev=dev∧d.name=s
  · exact .inl ⟨0,by simp at h;omega,by rw [ptK,if_pos hd];simp,hd,fun i hi=>absurd hi (by omega)⟩
  · rcases ptK_fst dev s r (k+1) r.length rfl with ⟨j,h1,h2,h3,h4⟩|⟨h1,h2⟩
    · refine .inl ⟨j+1,by simp at h;omega,by rw [ptK,if_neg hd,h2];congr 1;omega,by simpa using h3,fun i hi=>?_⟩
      match i with
      |0=>simpa using hd
      |i+1=>simpa using h4 i (by omega)
    · refine .inr ⟨by rw [ptK,if_neg hd,h1],fun i hi=>?_⟩
      match i with
      |0=>simpa using hd
      |i+1=>simpa using h2 i (by simp at h;omega)
theorem ptF_fst (N:NV) (dev:Int) (s:List UInt8) (n:Nat) (hn:N.ports.length=n):IsFst (fun k=>decide ((N.ports.getD k PortV.zero).dev=dev∧(N.ports.getD k PortV.zero).name=s)) n (ptF N dev s):=by
 rcases ptK_fst dev s N.ports 0 n hn.symm with ⟨j,h1,h2,h3,h4⟩|⟨h1,h2⟩
 · exact .inl ⟨j,h1,by unfold ptF;rw [h2];congr 1;omega,decide_eq_true h3,fun i hi=>decide_eq_false (h4 i hi)⟩
 · exact .inr ⟨h1,fun i hi=>decide_eq_false (h2 i hi)⟩
theorem device1_any (X:DevV) (l:List UInt8) (q:Nat) (w:World) (c1:w.cell? ⟨q,0,none⟩=some (.string (str l))):Calls Tryz.prog 44 #[.agg #[.int .i64 X.row,.int .i64 X.prio,.string (str X.name),.int .u64 X.mac,.int .u32 X.vtep],.pointer (some ⟨q,0,none⟩)] w fun e w'=>e=.returned (.bool (decide (X.name=l)))∧Below w.heap.size w w':=by
 have ql:q<w.heap.size:=World.block_lt_of_cell? w _ c1;obtain ⟨v,hv⟩:∃v,(X.name == l)=v:=⟨_,rfl⟩
 rw [show decide (X.name=l)=v by rw [←hv];by_cases g:X.name=l<;>simp [g]]
 go_enter Tryz.func44,Tryz.ntmps44
 go_wp2;go_ret;exact ⟨by first|rfl|simp [hv],vAc _ _⟩
theorem enters_device1:vBr Tryz.prog 44:=vBh Tryz.func44 (by kernel_rfl) rfl
theorem port1n_any (X:PortV) (s:Sl3) (dev:Int) (l:List UInt8) (q1 q2:Nat) (w:World) (c1:w.cell? ⟨q1,0,none⟩=some (.int .i64 dev)) (c2:w.cell? ⟨q2,0,none⟩=some (.string (str l))):Calls Tryz.prog 42 #[.agg #[.int .i64 X.row,.int .i64 X.dev,.int .i64 X.native,.int .i64 X.cost,.int .i64 X.link,.string (str X.name),.slice s.A s.n s.c],.pointer (some ⟨q1,0,none⟩),.pointer (some ⟨q2,0,none⟩)] w fun e w'=>e=.returned (.bool (decide (X.dev=dev∧X.name=l)))∧Below w.heap.size w w':=by
 have ql1:q1<w.heap.size:=World.block_lt_of_cell? w _ c1;have ql2:q2<w.heap.size:=World.block_lt_of_cell? w _ c2
 by_cases t1:X.dev=dev
 rotate_left
 · have z1:(X.dev == dev)=false:=by simpa using t1
   rw [decide_eq_false (fun g=>t1 g.1)];clear t1
   go_enter Tryz.func42,Tryz.ntmps42
   go_wp2;go_ret;exact ⟨rfl,vAc _ _⟩
 have z1:(X.dev == dev)=true:=by simpa using t1
 obtain ⟨v,hv⟩:∃v,(X.name == l)=v:=⟨_,rfl⟩
 rw [show decide (X.dev=dev∧X.name=l)=v by rw [←hv];by_cases g:X.name=l<;>simp [g,t1]]
 clear t1
 go_enter Tryz.func42,Tryz.ntmps42
 go_wp2;go_ret;exact ⟨by first|rfl|simp [hv],vAc _ _⟩
theorem enters_port1n:vBr Tryz.prog 42:=vBh Tryz.func42 (by kernel_rfl) rfl
theorem first_dev (N:NV) (S:NSl3) (A:Option Addr) (n c:Nat) (g:Value) (Z:Int) (w:World) (h:NRead w (vAw w) N S) (hs:NvSz N) (hn:NetOk N)
 (IX:∀w',Below w.heap.size w w'→Calls Tryz.prog 94 #[.slice A n c,g] w' fun e w2=>e=.returned (.int .i64 Z)∧Below w'.heap.size w' w2):
 Calls Tryz.prog 43 #[vAy S,.slice A n c,g] w fun e w'=>e=.returned (.int .i64 Z)∧Below w.heap.size w w':=by
 have RT:=fun (w':World) (hb:Below w.heap.size w w')=>vDw N S w' (h.up hb) hs
 rw [vFy hn] at RT;unfold vAy at RT ⊢;have RT:=Lib.hid RT;have IX:=Lib.hid IX;clear h hs hn
 go_enter Tryz.func43,Tryz.ntmps43
 go_wp2_with (first
  |(go_at_call 14;(with_reducible refine (RT.out _ (vAc _ _)).mono ?_);rintro e wr ⟨rfl,hb⟩;have Y:=Lib.hid hb;have X:=Lib.hid (vAa (vAc _ _) hb);clear hb)
  |(go_at_call 94;(with_reducible refine (IX.out _ X.out).mono ?_);rintro e wi ⟨rfl,hb⟩;have X2:=Lib.hid (vAa X.out hb);clear hb))
 go_ret;exact ⟨rfl,X2.out⟩
theorem first_port (N:NV) (S:NSl3) (A:Option Addr) (n c:Nat) (g:Value) (Z:Int) (w:World) (h:NRead w (vAw w) N S) (hs:NvSz N) (hn:NetOk N)
 (IX:∀w',Below w.heap.size w w'→Calls Tryz.prog 93 #[.slice A n c,g] w' fun e w2=>e=.returned (.int .i64 Z)∧Below w'.heap.size w' w2):
 Calls Tryz.prog 41 #[vAy S,.slice A n c,g] w fun e w'=>e=.returned (.int .i64 Z)∧Below w.heap.size w w':=by
 have RT:=fun (w':World) (hb:Below w.heap.size w w')=>vDw N S w' (h.up hb) hs
 rw [vFy hn] at RT;unfold vAy at RT ⊢;have RT:=Lib.hid RT;have IX:=Lib.hid IX;clear h hs hn
 go_enter Tryz.func41,Tryz.ntmps41
 go_wp2_with (first
  |(go_at_call 14;(with_reducible refine (RT.out _ (vAc _ _)).mono ?_);rintro e wr ⟨rfl,hb⟩;have Y:=Lib.hid hb;have X:=Lib.hid (vAa (vAc _ _) hb);clear hb)
  |(go_at_call 93;(with_reducible refine (IX.out _ X.out).mono ?_);rintro e wi ⟨rfl,hb⟩;have X2:=Lib.hid (vAa X.out hb);clear hb))
 go_ret;exact ⟨rfl,X2.out⟩
theorem xndomain_any (N:NV) (S:NSl3) (dev v:Int) (w:World) (h:NRead w (vAw w) N S) (hs:NvSz N) (hn:NetOk N):Calls Tryz.prog 69 #[vAy S,.int .i64 dev,.int .i64 v] w fun e w'=>e=.returned (.int .i64 (atF N dev v))∧Below w.heap.size w w':=by
 have RT:=fun (w':World) (hb:Below w.heap.size w w')=>vDw N S w' (h.up hb) hs
 have FD:=fun (w':World) (hb:Below w.heap.size w w')=>find_any N S dev v w' (h.up hb)
 have KB:=Lib.hid (show ∀W,w.alloc (.cells (nA S) 31)=W→∀wx,Below W.heap.size W wx→(NF wx w.heap.size S) from fun W hW wx hx=>by
  have n:=((net_c1 S _ hW).1.below hx).1
  exact ⟨n 0 _ rfl,n 1 _ rfl,n 2 _ rfl,n 3 _ rfl,n 4 _ rfl,n 5 _ rfl,n 6 _ rfl,n 7 _ rfl⟩)
 rw [vFy hn] at RT;generalize atF N dev v=Z at *;unfold vAy at RT FD ⊢;have RT:=Lib.hid RT;have FD:=Lib.hid FD;clear h hs hn
 go_enter Tryz.func69,Tryz.ntmps69
 go_wp2_with (first
  |(go_at_call 14;(with_reducible refine (RT.out _ (vAc _ _)).mono ?_);rintro e wr ⟨rfl,hb⟩;have Y:=Lib.hid hb;have X:=Lib.hid (vAa (vAc _ _) hb);obtain ⟨f0,f1,f2,f3,f4,f5,f6,f7⟩:=KB.out _ rfl _ Y.out;clear hb)
  |(go_at_call 104;(with_reducible refine (FD.out _ X.out).mono ?_);rintro e wi ⟨rfl,hb⟩;have X2:=Lib.hid (vAa X.out hb);clear hb))
 go_ret;exact ⟨rfl,X2.out⟩
theorem xndevice_any (N:NV) (S:NSl3) (l:List UInt8) (w:World) (h:NRead w (vAw w) N S) (hs:NvSz N) (hn:NetOk N) (_hl:l.length≤9223372036854775807):Calls Tryz.prog 13 #[vAy S,.string (str l)] w fun e w'=>e=.returned (.int .i64 (dvF N l))∧Below w.heap.size w w':=by
 obtain ⟨W,hW⟩:∃W,(w.alloc (.cells (nA S) 31)).alloc (.cells #[.string (str l)] 9)=W:=⟨_,rfl⟩;have NC:=vIh S _ _ [.string (str l)] hW
 have FS:=first_dev N S S.dv.A S.dv.n S.dv.c (.func (.func 44) #[] #[.pointer (some ⟨w.heap.size+1,0,none⟩)]) (dvF N l) W (h.up NC.2.2) hs hn (fun w' hb=>
  idx_dev 44 #[.pointer (some ⟨w.heap.size+1,0,none⟩)] enters_device1 S.dv.A S.dv.n S.dv.c N.devices w' (vAp (vAp h.dv NC.2.2) hb) _ (fun k w2 hk hb2=>by
   rw [app1]
   exact device1_any _ l _ w2 (((NC.2.1.below hb).below hb2).1 0 _ rfl)) _ (dvF_fst N l S.dv.n h.dv.len))
 generalize dvF N l=Z at *;have B0:=Lib.hid NC.2.2;subst hW;unfold vAy at FS ⊢;have FS:=Lib.hid FS;clear h hs hn NC
 go_enter Tryz.func13,Tryz.ntmps13
 go_wp2_with (go_at_call 43;(with_reducible refine FS.out.mono ?_);rintro e wi ⟨rfl,hb⟩;have X2:=Lib.hid (vAa B0.out hb);clear hb);go_ret;exact ⟨rfl,X2.out⟩
theorem xnport_any (N:NV) (S:NSl3) (dev:Int) (l:List UInt8) (w:World) (h:NRead w (vAw w) N S) (hs:NvSz N) (hn:NetOk N) (_hl:l.length≤9223372036854775807):Calls Tryz.prog 12 #[vAy S,.int .i64 dev,.string (str l)] w fun e w'=>e=.returned (.int .i64 (ptF N dev l))∧Below w.heap.size w w':=by
 obtain ⟨W,hW⟩:∃W,((w.alloc (.cells (nA S) 31)).alloc (.cells #[.int .i64 dev] 3)).alloc (.cells #[.string (str l)] 9)=W:=⟨_,rfl⟩;have NC:=net_cs3 S _ _ _ [.int .i64 dev] [.string (str l)] hW
 have FS:=first_port N S S.pt.A S.pt.n S.pt.c (.func (.func 42) #[] #[.pointer (some ⟨w.heap.size+1,0,none⟩),.pointer (some ⟨w.heap.size+2,0,none⟩)]) (ptF N dev l) W (h.up NC.2.2.2) hs hn (fun w' hb=>
  idx_port 42 #[.pointer (some ⟨w.heap.size+1,0,none⟩),.pointer (some ⟨w.heap.size+2,0,none⟩)] enters_port1n S.pt.A S.pt.n S.pt.c N.ports w' (vAp (vAp h.pt NC.2.2.2) hb) _ (fun k s w2 hk hb2 _=>by
   rw [app12]
   exact port1n_any _ s dev l _ _ w2 (((NC.2.1.below hb).below hb2).1 0 _ rfl) (((NC.2.2.1.below hb).below hb2).1 0 _ rfl)) _ (ptF_fst N dev l S.pt.n h.pt.len))
 generalize ptF N dev l=Z at *;have B0:=Lib.hid NC.2.2.2;subst hW;unfold vAy at FS ⊢;have FS:=Lib.hid FS;clear h hs hn NC
 go_enter Tryz.func12,Tryz.ntmps12
 go_wp2_with (go_at_call 41;(with_reducible refine FS.out.mono ?_);rintro e wi ⟨rfl,hb⟩;have X2:=Lib.hid (vAa B0.out hb);clear hb);go_ret;exact ⟨rfl,X2.out⟩
end Go.Proofs.YtnpembgchmmbjaaGreat
