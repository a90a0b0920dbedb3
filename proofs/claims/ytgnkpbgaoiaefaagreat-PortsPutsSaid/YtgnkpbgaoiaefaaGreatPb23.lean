import Derived.Test.YtgnkpbgaoiaefaaGreatPb15
import Derived.Test.YtgnkpbgaoiaefaaGreatPb21
import Derived.Test.YtgnkpbgaoiaefaaGreatPb13
import Derived.Test.YtgnkpbgaoiaefaaGreatPb22
import Derived.Test.YtgnkpbgaoiaefaaGreatPb01
import Derived.Test.YtgnkpbgaoiaefaaGreatPb06
import Derived.Test.YtgnkpbgaoiaefaaGreatPb08
import Derived.WalkMore
import Derived.Deep.QuietTactic
set_option maxRecDepth 100000
set_option maxHeartbeats 40000000
namespace Go.Proofs.YtgnkpbgaoiaefaaGreat
open Go.Lib (hid)
open Go.RowKit
def dvK:List DevV→List UInt8→Nat→Int
 | [],_,_=> -1
 |d :: r,s,k=>if d.name=s then (k:Int) else dvK r s (k+1)
def dvF (N:NV) (s:List UInt8):Int:=dvK N.devices s 0
def ptK:List PortV→Int→List UInt8→Nat→Int
 | [],_,_,_=> -1
 |d :: r,dev,s,k=>if d.dev=dev∧d.name=s then (k:Int) else ptK r dev s (k+1)
def ptF (N:NV) (dev:Int) (s:List UInt8):Int:=ptK N.ports dev s 0
theorem none_ok:NetOk NV.zero:=by
 refine ⟨by decide,by decide,by decide,by decide,by decide,by decide,by decide,by decide,⟨?_,?_⟩,?_,?_,⟨?_,?_,?_,?_⟩⟩
 all_goals exact fun i hi=>absurd hi (Nat.not_lt_zero _)
theorem none_sz:NvSz NV.zero:=by
 refine ⟨by decide,by decide,by decide,by decide,by decide,by decide,by decide,by decide,?_,?_,?_,?_⟩
 all_goals exact fun i hi=>absurd hi (Nat.not_lt_zero _)
theorem rsl_one {α:Type} (R:Rdr α) (w:World) (F:Nat→Prop) (b:Nat) (vs:List Value) (x:α) (hF:F b) (hb:b<w.heap.size) (h:R.rd w F vs x) (hc:w.rangeAt b 0 vs):RSl R w F (some ⟨b,0,none⟩) 1 1 [x]:=by
 refine ⟨rfl,Nat.le_refl _,by unfold maxLen;omega,(fun h=>by cases h),fun _=>⟨b,0,rfl,hF,hb,?_⟩⟩;intro j y hy
 match j,hy with
 |0,hy=>
  obtain rfl:x=y:=by simpa using hy
  exact ⟨vs,h,by simpa using hc⟩
 |j+1,hy=>simp at hy
theorem vCl (w:World):NRead w (vAs w) NV.zero NSl3.nil:=⟨RSl.nil,RSl.nil,RSl.nil,RSl.nil,RSl.nil,RSl.nil,RSl.nil,RSl.nil⟩
theorem range_list {w:World} {b:Nat} {vs:List Value} {T:TypeId} (h:w.heap[b]?=some (.cells vs.toArray T)):w.rangeAt b 0 vs:=by
 intro i v hv;rw [Nat.zero_add,World.cell?,h];simpa using hv
theorem dvK_fst (s:List UInt8):∀(xs:List DevV) (k n:Nat),n=xs.length→(∃j,j<n∧dvK xs s k=((k+j:Nat):Int)∧((xs.getD j DevV.zero).name=s)∧∀i,i<j→¬((xs.getD i DevV.zero).name=s))∨(dvK xs s k= -1∧∀i,i<n→¬((xs.getD i DevV.zero).name=s))
 | [],k,n,h=>.inr ⟨rfl,fun i hi=>absurd hi (by simp at h;omega)⟩
 |d :: r,k,n,h=>by
  by_cases hd:d.name=s
  · exact .inl ⟨0,by simp at h;omega,by rw [dvK,if_pos hd];simp,hd,fun i hi=>absurd hi (by omega)⟩
  · rcases dvK_fst s r (k+1) r.length rfl with ⟨j,h1,h2,h3,h4⟩|⟨h1,h2⟩
    · refine .inl ⟨j+1,by simp at h;omega,by rw [dvK,if_neg hd,h2];congr 1;omega,by simpa using h3,fun i hi=>?_⟩
      match i with
      |0=>simpa using hd
      |i+1=>simpa using h4 i (by omega)
    · refine .inr ⟨by rw [dvK,if_neg hd,h1],fun i hi=>?_⟩
      match i with
      |0=>simpa using hd
      |i+1=>simpa using h2 i (by simp at h;omega)
theorem dvF_fst (N:NV) (s:List UInt8) (n:Nat) (hn:N.devices.length=n):IsFst (fun k=>decide ((N.devices.getD k DevV.zero).name=s)) n (dvF N s):=by
 rcases dvK_fst s N.devices 0 n hn.symm with ⟨j,h1,h2,h3,h4⟩|⟨h1,h2⟩
 · exact .inl ⟨j,h1,by unfold dvF;rw [h2];congr 1;omega,decide_eq_true h3,fun i hi=>decide_eq_false (h4 i hi)⟩
 · exact .inr ⟨h1,fun i hi=>decide_eq_false (h2 i hi)⟩
theorem ptK_fst (dev:Int) (s:List UInt8):∀(xs:List PortV) (k n:Nat),n=xs.length→(∃j,j<n∧ptK xs dev s k=((k+j:Nat):Int)∧((xs.getD j PortV.zero).dev=dev∧(xs.getD j PortV.zero).name=s)∧∀i,i<j→¬((xs.getD i PortV.zero).dev=dev∧(xs.getD i PortV.zero).name=s))∨(ptK xs dev s k= -1∧∀i,i<n→¬((xs.getD i PortV.zero).dev=dev∧(xs.getD i PortV.zero).name=s))
 | [],k,n,h=>.inr ⟨rfl,fun i hi=>absurd hi (by simp at h;omega)⟩
 |d :: r,k,n,h=>by
  by_cases hd:d.dev=dev∧d.name=s
  · exact .inl ⟨0,by simp at h;omega,by rw [ptK,if_pos hd];simp,hd,fun i hi=>absurd hi (by omega)⟩
  · rcases ptK_fst dev s r (k+1) r.length rfl with ⟨j,h1,h2,h3,h4⟩|⟨h1,h2⟩
    · refine .inl ⟨j+1,by simp at h;omega,by rw [ptK,if_neg hd,h2];congr 1;omega,by simpa using h3,fun i hi=>?_⟩
      match i with
      |0=>simpa using hd
      |i+1=>simpa using h4 i (by omega)
    · refine .inr ⟨by rw [ptK,if_neg hd,h1],fun i hi=>?_⟩
      match i with
      |0=>simpa using hd
      |i+1=>simpa using h2 i (by simp at h;omega)
theorem ptF_fst (N:NV) (dev:Int) (s:List UInt8) (n:Nat) (hn:N.ports.length=n):IsFst (fun k=>decide ((N.ports.getD k PortV.zero).dev=dev∧(N.ports.getD k PortV.zero).name=s)) n (ptF N dev s):=by
 rcases ptK_fst dev s N.ports 0 n hn.symm with ⟨j,h1,h2,h3,h4⟩|⟨h1,h2⟩
 · exact .inl ⟨j,h1,by unfold ptF;rw [h2];congr 1;omega,decide_eq_true h3,fun i hi=>decide_eq_false (h4 i hi)⟩
 · exact .inr ⟨h1,fun i hi=>decide_eq_false (h2 i hi)⟩
theorem device1_any (X:DevV) (l:List UInt8) (q:Nat) (w:World) (c1:w.cell? ⟨q,0,none⟩=some (.string (str l))):Calls Tryz.prog 77 #[.agg #[.int .i64 X.row,.int .i64 X.prio,.string (str X.name),.int .u64 X.mac,.int .u32 X.vtep],.pointer (some ⟨q,0,none⟩)] w fun e w'=>e=.returned (.bool (decide (X.name=l)))∧Below w.heap.size w w':=by
 have ql:q<w.heap.size:=World.block_lt_of_cell? w _ c1;obtain ⟨v,hv⟩:∃v,(X.name == l)=v:=⟨_,rfl⟩
 rw [show decide (X.name=l)=v by rw [←hv];by_cases g:X.name=l<;>simp [g]]
 go_enter Tryz.func77,Tryz.ntmps77
 go_wp2;go_ret;exact ⟨by first|rfl|simp [hv],vAc _ _⟩
theorem enters_device1:vBk Tryz.prog 77:=vBd Tryz.func77 (by kernel_rfl) rfl
theorem port1n_any (X:PortV) (s:Sl3) (dev:Int) (l:List UInt8) (q1 q2:Nat) (w:World) (c1:w.cell? ⟨q1,0,none⟩=some (.int .i64 dev)) (c2:w.cell? ⟨q2,0,none⟩=some (.string (str l))):Calls Tryz.prog 88 #[.agg #[.int .i64 X.row,.int .i64 X.dev,.int .i64 X.native,.int .i64 X.cost,.int .i64 X.link,.string (str X.name),.slice s.A s.n s.c],.pointer (some ⟨q1,0,none⟩),.pointer (some ⟨q2,0,none⟩)] w fun e w'=>e=.returned (.bool (decide (X.dev=dev∧X.name=l)))∧Below w.heap.size w w':=by
 have ql1:q1<w.heap.size:=World.block_lt_of_cell? w _ c1;have ql2:q2<w.heap.size:=World.block_lt_of_cell? w _ c2
 by_cases t1:X.dev=dev
 rotate_left
 · have z1:(X.dev == dev)=false:=by simpa using t1
   rw [decide_eq_false (fun g=>t1 g.1)];clear t1
   go_enter Tryz.func88,Tryz.ntmps88
   go_wp2;go_ret;exact ⟨rfl,vAc _ _⟩
 have z1:(X.dev == dev)=true:=by simpa using t1
 obtain ⟨v,hv⟩:∃v,(X.name == l)=v:=⟨_,rfl⟩
 rw [show decide (X.dev=dev∧X.name=l)=v by rw [←hv];by_cases g:X.name=l<;>simp [g,t1]]
 clear t1
 go_enter Tryz.func88,Tryz.ntmps88
 go_wp2;go_ret;exact ⟨by first|rfl|simp [hv],vAc _ _⟩
theorem enters_port1n:vBk Tryz.prog 88:=vBd Tryz.func88 (by kernel_rfl) rfl
theorem first_dev (N:NV) (S:NSl3) (A:Option Addr) (n c:Nat) (g:Value) (Z:Int) (w:World) (h:NRead w (vAs w) N S) (hs:NvSz N) (hn:NetOk N)
 (IX:∀w',Below w.heap.size w w'→Calls Tryz.prog 136 #[.slice A n c,g] w' fun e w2=>e=.returned (.int .i64 Z)∧Below w'.heap.size w' w2):
 Calls Tryz.prog 76 #[vBb S,.slice A n c,g] w fun e w'=>e=.returned (.int .i64 Z)∧Below w.heap.size w w':=by
 have RT:=fun (w':World) (hb:Below w.heap.size w w')=>vEy N S w' (h.up hb) hs
 rw [netB_yes hn] at RT;unfold vBb at RT ⊢;have RT:=hid RT;have IX:=hid IX;clear h hs hn
 go_enter Tryz.func76,Tryz.ntmps76
 go_wp2_with (first
  |(go_at_call 25;(with_reducible refine (RT.out _ (vAc _ _)).mono ?_);rintro e wr ⟨rfl,hb⟩;have Y:=hid hb;have X:=hid (vAa (vAc _ _) hb);clear hb)
  |(go_at_call 136;(with_reducible refine (IX.out _ X.out).mono ?_);rintro e wi ⟨rfl,hb⟩;have X2:=hid (vAa X.out hb);clear hb))
 go_ret;exact ⟨rfl,X2.out⟩
theorem first_port (N:NV) (S:NSl3) (A:Option Addr) (n c:Nat) (g:Value) (Z:Int) (w:World) (h:NRead w (vAs w) N S) (hs:NvSz N) (hn:NetOk N)
 (IX:∀w',Below w.heap.size w w'→Calls Tryz.prog 152 #[.slice A n c,g] w' fun e w2=>e=.returned (.int .i64 Z)∧Below w'.heap.size w' w2):
 Calls Tryz.prog 87 #[vBb S,.slice A n c,g] w fun e w'=>e=.returned (.int .i64 Z)∧Below w.heap.size w w':=by
 have RT:=fun (w':World) (hb:Below w.heap.size w w')=>vEy N S w' (h.up hb) hs
 rw [netB_yes hn] at RT;unfold vBb at RT ⊢;have RT:=hid RT;have IX:=hid IX;clear h hs hn
 go_enter Tryz.func87,Tryz.ntmps87
 go_wp2_with (first
  |(go_at_call 25;(with_reducible refine (RT.out _ (vAc _ _)).mono ?_);rintro e wr ⟨rfl,hb⟩;have Y:=hid hb;have X:=hid (vAa (vAc _ _) hb);clear hb)
  |(go_at_call 152;(with_reducible refine (IX.out _ X.out).mono ?_);rintro e wi ⟨rfl,hb⟩;have X2:=hid (vAa X.out hb);clear hb))
 go_ret;exact ⟨rfl,X2.out⟩
theorem xndomain_any (N:NV) (S:NSl3) (dev v:Int) (w:World) (h:NRead w (vAs w) N S) (hs:NvSz N) (hn:NetOk N):Calls Tryz.prog 91 #[vBb S,.int .i64 dev,.int .i64 v] w fun e w'=>e=.returned (.int .i64 (atF N dev v))∧Below w.heap.size w w':=by
 have RT:=fun (w':World) (hb:Below w.heap.size w w')=>vEy N S w' (h.up hb) hs
 have FD:=fun (w':World) (hb:Below w.heap.size w w')=>find_any N S dev v w' (h.up hb)
 have KB:=hid (show ∀W,w.alloc (.cells (nA S) 31)=W→∀wx,Below W.heap.size W wx→(NF wx w.heap.size S) from fun W hW wx hx=>by
  have n:=((net_c1 S _ hW).1.below hx).1
  exact ⟨n 0 _ rfl,n 1 _ rfl,n 2 _ rfl,n 3 _ rfl,n 4 _ rfl,n 5 _ rfl,n 6 _ rfl,n 7 _ rfl⟩)
 rw [netB_yes hn] at RT;generalize atF N dev v=Z at *;unfold vBb at RT FD ⊢;have RT:=hid RT;have FD:=hid FD;clear h hs hn
 go_enter Tryz.func91,Tryz.ntmps91
 go_wp2_with (first
  |(go_at_call 25;(with_reducible refine (RT.out _ (vAc _ _)).mono ?_);rintro e wr ⟨rfl,hb⟩;have Y:=hid hb;have X:=hid (vAa (vAc _ _) hb);obtain ⟨f0,f1,f2,f3,f4,f5,f6,f7⟩:=KB.out _ rfl _ Y.out;clear hb)
  |(go_at_call 126;(with_reducible refine (FD.out _ X.out).mono ?_);rintro e wi ⟨rfl,hb⟩;have X2:=hid (vAa X.out hb);clear hb))
 go_ret;exact ⟨rfl,X2.out⟩
theorem vIp (N:NV) (S:NSl3) (l:List UInt8) (w:World) (h:NRead w (vAs w) N S) (hs:NvSz N) (hn:NetOk N) (_hl:l.length≤9223372036854775807):Calls Tryz.prog 28 #[vBb S,.string (str l)] w fun e w'=>e=.returned (.int .i64 (dvF N l))∧Below w.heap.size w w':=by
 obtain ⟨W,hW⟩:∃W,(w.alloc (.cells (nA S) 31)).alloc (.cells #[.string (str l)] 9)=W:=⟨_,rfl⟩;have NC:=net_cs S _ _ [.string (str l)] hW
 have FS:=first_dev N S S.dv.A S.dv.n S.dv.c (.func (.func 77) #[] #[.pointer (some ⟨w.heap.size+1,0,none⟩)]) (dvF N l) W (h.up NC.2.2) hs hn (fun w' hb=>
  idx_dev 77 #[.pointer (some ⟨w.heap.size+1,0,none⟩)] enters_device1 S.dv.A S.dv.n S.dv.c N.devices w' (vAr (vAr h.dv NC.2.2) hb) _ (fun k w2 hk hb2=>by
   rw [app1]
   exact device1_any _ l _ w2 (((NC.2.1.below hb).below hb2).1 0 _ rfl)) _ (dvF_fst N l S.dv.n h.dv.len))
 generalize dvF N l=Z at *;have B0:=hid NC.2.2;subst hW;unfold vBb at FS ⊢;have FS:=hid FS;clear h hs hn NC
 go_enter Tryz.func28,Tryz.ntmps28
 go_wp2_with (go_at_call 76;(with_reducible refine FS.out.mono ?_);rintro e wi ⟨rfl,hb⟩;have X2:=hid (vAa B0.out hb);clear hb);go_ret;exact ⟨rfl,X2.out⟩
theorem xnport_any (N:NV) (S:NSl3) (dev:Int) (l:List UInt8) (w:World) (h:NRead w (vAs w) N S) (hs:NvSz N) (hn:NetOk N) (_hl:l.length≤9223372036854775807):Calls Tryz.prog 32 #[vBb S,.int .i64 dev,.string (str l)] w fun e w'=>e=.returned (.int .i64 (ptF N dev l))∧Below w.heap.size w w':=by
 obtain ⟨W,hW⟩:∃W,((w.alloc (.cells (nA S) 31)).alloc (.cells #[.int .i64 dev] 3)).alloc (.cells #[.string (str l)] 9)=W:=⟨_,rfl⟩;have NC:=net_cs3 S _ _ _ [.int .i64 dev] [.string (str l)] hW
 have FS:=first_port N S S.pt.A S.pt.n S.pt.c (.func (.func 88) #[] #[.pointer (some ⟨w.heap.size+1,0,none⟩),.pointer (some ⟨w.heap.size+2,0,none⟩)]) (ptF N dev l) W (h.up NC.2.2.2) hs hn (fun w' hb=>
  idx_port 88 #[.pointer (some ⟨w.heap.size+1,0,none⟩),.pointer (some ⟨w.heap.size+2,0,none⟩)] enters_port1n S.pt.A S.pt.n S.pt.c N.ports w' (vAr (vAr h.pt NC.2.2.2) hb) _ (fun k s w2 hk hb2 _=>by
   rw [app12]
   exact port1n_any _ s dev l _ _ w2 (((NC.2.1.below hb).below hb2).1 0 _ rfl) (((NC.2.2.1.below hb).below hb2).1 0 _ rfl)) _ (ptF_fst N dev l S.pt.n h.pt.len))
 generalize ptF N dev l=Z at *;have B0:=hid NC.2.2.2;subst hW;unfold vBb at FS ⊢;have FS:=hid FS;clear h hs hn NC
 go_enter Tryz.func32,Tryz.ntmps32
 go_wp2_with (go_at_call 87;(with_reducible refine FS.out.mono ?_);rintro e wi ⟨rfl,hb⟩;have X2:=hid (vAa B0.out hb);clear hb);go_ret;exact ⟨rfl,X2.out⟩
def wch (c:UInt8):Bool:=decide (33≤c.toNat) && (decide (c.toNat≤126) && decide (c.toNat≠35))
theorem wch_iff (c:UInt8):wch c=true↔33≤c.toNat∧c.toNat≤126∧c.toNat≠35:=by unfold wch;simp
def wordF (l:List UInt8):Bool:=decide (1≤l.length) && (decide (l.length≤40) && l.all wch)
theorem wordF_iff (l:List UInt8):wordF l=true↔1≤l.length∧l.length≤40∧∀c∈l,wch c=true:=by unfold wordF;simp
theorem wordF_len {l:List UInt8} (h:¬(1≤l.length∧l.length≤40)):wordF l=false:=by
 cases hx:wordF l with
 |false=>rfl
 |true=>exact absurd ⟨((wordF_iff l).1 hx).1,((wordF_iff l).1 hx).2.1⟩ h
theorem wordF_mid {l:List UInt8} (h0:1≤l.length) (h1:l.length≤40):wordF l=l.all wch:=by unfold wordF;simp [h0,h1]
def wsStep (s:List (List UInt8)×List UInt8) (c:UInt8):List (List UInt8)×List UInt8:=if c=32∨c=9 then (if s.2=[] then s.1 else s.1++[s.2],[]) else (s.1,s.2++[c])
def wsS (l:List UInt8):List (List UInt8)×List UInt8:=l.foldl wsStep ([],[])
def wsEnd (s:List (List UInt8)×List UInt8):List (List UInt8):=if s.2=[] then s.1 else s.1++[s.2]
def wsF (l:List UInt8):List (List UInt8):=wsEnd (wsS l)
theorem wsS_snoc (l:List UInt8) (c:UInt8):wsS (l++[c])=wsStep (wsS l) c:=by simp [wsS]
theorem wsS_blank (l:List UInt8) (c:UInt8) (h:c=32∨c=9):wsS (l++[c])=(wsF l,[]):=by rw [wsS_snoc,wsStep,if_pos h];rfl
theorem wsS_other (l:List UInt8) (c:UInt8) (h:¬(c=32∨c=9)):wsS (l++[c])=((wsS l).1,(wsS l).2++[c]):=by rw [wsS_snoc,wsStep,if_neg h]
theorem wsS_len (l:List UInt8):(wsS l).1.length≤l.length∧(wsS l).2.length≤l.length∧(wsF l).length≤l.length:=by
 have key:∀k:List UInt8,(wsS k).1.length+(if (wsS k).2=[] then 0 else 1)≤k.length∧(wsS k).2.length≤k.length:=by
  intro k
  induction h:k.length generalizing k with
  |zero=>have:k=[]:=List.eq_nil_of_length_eq_zero h;subst this;simp [wsS]
  |succ n ih=>
   obtain ⟨q,c,rfl⟩:∃q c,k=q++[c]:=⟨k.dropLast,k.getLast (by intro e;subst e;simp at h),(List.dropLast_concat_getLast _).symm⟩
   have hq:q.length=n:=by simp at h;exact h
   obtain ⟨i1,i2⟩:=ih q hq
   by_cases hc:c=32∨c=9
   · rw [wsS_blank q c hc]
     unfold wsF wsEnd
     by_cases e:(wsS q).2=[]
     · rw [if_pos e] at i1 ⊢;simp;omega
     · rw [if_neg e] at i1 ⊢;simp;omega
   · rw [wsS_other q c hc]
     refine ⟨?_,by simp;omega⟩;simp
     by_cases e:(wsS q).2=[]
     · rw [if_pos e] at i1;omega
     · rw [if_neg e] at i1;omega
 obtain ⟨h1,h2⟩:=key l;refine ⟨by omega,h2,?_⟩;unfold wsF wsEnd
 by_cases e:(wsS l).2=[]
 · rw [if_pos e] at h1 ⊢;omega
 · rw [if_neg e] at h1 ⊢;simp;omega
theorem wsS_part (l:List UInt8):(∀p∈wsF l,p.length≤l.length):=by
 have key:∀k:List UInt8,(∀p∈(wsS k).1,p.length≤k.length):=by
  intro k
  induction h:k.length generalizing k with
  |zero=>have:k=[]:=List.eq_nil_of_length_eq_zero h;subst this;simp [wsS]
  |succ n ih=>
   obtain ⟨q,c,rfl⟩:∃q c,k=q++[c]:=⟨k.dropLast,k.getLast (by intro e;subst e;simp at h),(List.dropLast_concat_getLast _).symm⟩
   have hq:q.length=n:=by simp at h;exact h
   have i1:=ih q hq;have i2:=(wsS_len q).2.1
   by_cases hc:c=32∨c=9
   · rw [wsS_blank q c hc]
     intro p hp;unfold wsF wsEnd at hp
     by_cases e:(wsS q).2=[]
     · rw [if_pos e] at hp
       have:=i1 p hp
       omega
     · rw [if_neg e] at hp
       rcases List.mem_append.1 hp with hp|hp
       · have:=i1 p hp;omega
       · rw [List.mem_singleton.1 hp];omega
   · rw [wsS_other q c hc]
     intro p hp
     have:=i1 p hp
     omega
 intro p hp;have h2:=(wsS_len l).2.1;unfold wsF wsEnd at hp
 by_cases e:(wsS l).2=[]
 · rw [if_pos e] at hp;exact key l p hp
 · rw [if_neg e] at hp
   rcases List.mem_append.1 hp with hp|hp
   · exact key l p hp
   · rw [List.mem_singleton.1 hp];exact h2
def vGj (l:List UInt8):List UInt8:=headC 35 l
def wlE (l:List UInt8):Int:=if (wsF (vGj l)).all wordF=true then 0 else 20
theorem wlE_ok {l:List UInt8} (h:(wsF (vGj l)).all wordF=true):wlE l=0:=by unfold wlE;rw [if_pos h]
theorem wlE_no {l:List UInt8} (h:(wsF (vGj l)).all wordF=false):wlE l=20:=by unfold wlE;rw [h];rfl
open Go.Lib (byteCells)
theorem run_index_bat (l:List UInt8) (j:Nat) (hj:j<l.length) (w:World):(Instr.index 9 (.string (str l)) (.int .i64 j)).run Tryz.prog w=.ok (.int .u8 (bat l j)) w:=by
 have:=vAv (str l) j j rfl (by rw [vBe];exact hj) w
 rw [show sb (str l) j=bat l j by simp [sb,bat]] at this;exact this
theorem all_take (f:UInt8→Bool) (l:List UInt8) (k:Nat) (h:k<l.length) (g:(l.take k).all f=true):(l.take (k+1)).all f=f (l.getD k 0):=by
 rw [List.take_succ_eq_append_getElem h,List.all_append,g];simp [List.getD,h]
theorem all_not (f:UInt8→Bool) (l:List UInt8) (k:Nat) (h:k<l.length) (g:f (l.getD k 0)=false):l.all f=false:=by
 cases hx:l.all f with
 |false=>rfl
 |true=>
  rw [List.all_eq_true] at hx
  have:=hx l[k] (List.getElem_mem h)
  simp [List.getD,h] at g;rw [this] at g
  cases g
theorem wch_bat (l:List UInt8) (k:Nat):wch (l.getD k 0)=true↔33≤bat l k∧bat l k≤126∧bat l k≠35:=by
 rw [wch_iff];unfold bat;omega
open Go.Lib (byteCells)
open Go.Lib (byteCells)
def GotS (w:World) (ps:List (List UInt8)) (E:Int) (e:Ending) (w':World):Prop:=∃A n c,e=.returned (.tuple #[.slice A n c,.int .i64 E])∧SSl w' A n c ps∧Below w.heap.size w w'
def os (E:Int) (ps:List (List UInt8)):List (List UInt8):=if E=0 then ps else []
theorem os_no {E:Int} {ps:List (List UInt8)} (h:¬E=0):os E ps=[]:=by unfold os;rw [if_neg h]
theorem own_texts {w:World} {B n:Nat} {e:TypeId} {v:Value} {ps:List (List UInt8)} (h:w.ownsRow B e 1 v n (txts ps)):∃A c,v=.slice A n c∧SSl w A n c ps:=by
 obtain ⟨A,c,rfl⟩:=own_shape h;exact ⟨A,c,rfl,SSl.of_own h⟩
theorem rwS_take (l:List UInt8) (k:Nat) (h:k<l.length):l.take (k+1)=l.take k++[l.getD k 0]:=by
 rw [List.take_succ_eq_append_getElem h];simp [List.getD,h]
open Go.Lib (byteCells)
theorem ahead_spec (l:List UInt8):(vGj l).length≤l.length∧vGj l=l.take (vGj l).length∧(∀j,j<(vGj l).length→l.getD j 0≠35)∧((vGj l).length<l.length→l.getD (vGj l).length 0=35):=by
 unfold vGj
 induction l with
 |nil=>exact ⟨by simp [headC],by simp [headC],fun j hj=>by simp [headC] at hj,fun h=>by simp [headC] at h⟩
 |cons a r ih=>
  by_cases ha:a=35
  · subst ha
    rw [(headC_same 35 r).1];exact ⟨by simp,by simp,fun j hj=>by simp at hj,fun _=>rfl⟩
  · rw [(headC_cons 35 a r ha).1]
    obtain ⟨h1,h2,h3,h4⟩:=ih;refine ⟨by simp;omega,by rw [List.length_cons,List.take_succ_cons,←h2],fun j hj=>?_,fun hj=>?_⟩
    · match j with
      |0=>exact ha
      |j+1=>exact h3 j (by simp at hj;omega)
    · exact h4 (by simp at hj;omega)
theorem bat_byte (l:List UInt8) (k:Nat) (c:UInt8):(bat l k=(c.toNat:Int))↔l.getD k 0=c:=by
 unfold bat
 constructor
 · intro h
   exact UInt8.toNat_inj.1 (by omega)
 · intro h
   rw [h]
theorem wsS_take (l:List UInt8) (k:Nat) (h:k<l.length):wsS (l.take (k+1))=wsStep (wsS (l.take k)) (l.getD k 0):=by rw [rwS_take l k h,wsS_snoc]
def GotWords (w:World) (l:List UInt8):Ending→World→Prop:=GotS w (os (wlE l) (wsF (vGj l))) (wlE l)
def WdInv (w:World) (l:List UInt8) (vr vo vw vi:Value) (wr:World):Prop:=
 ∃k:Nat,vi=.int .i64 k∧Below w.heap.size w wr∧
  ((k≤(vGj l).length∧vr=.string (str l)∧vw=.string (str (wsS (l.take k)).2)∧wr.ownsRow w.heap.size 9 1 vo (wsS (l.take k)).1.length (txts (wsS (l.take k)).1))∨
   (k=(vGj l).length+1∧vr=.string (str (vGj l))∧vw=.string ⟨#[]⟩∧wr.ownsRow w.heap.size 9 1 vo (wsF (vGj l)).length (txts (wsF (vGj l)))))
end Go.Proofs.YtgnkpbgaoiaefaaGreat
