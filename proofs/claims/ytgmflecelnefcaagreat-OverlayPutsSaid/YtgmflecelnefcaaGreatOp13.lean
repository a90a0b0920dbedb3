import Derived.Test.YtgmflecelnefcaaGreatOp12
import Derived.Test.YtgmflecelnefcaaGreatOp11
import Derived.Deep.CutBlock
import Derived.Deep.DeepCutAuto
import Derived.Deep.RegionHeldLaw
set_option maxRecDepth 100000
set_option maxHeartbeats 40000000
namespace Go.Proofs.YtgmflecelnefcaaGreat
open Go.Lib (hid)
open Go.RowKit
theorem app1 (a b:Value):#[a]++#[b]=#[a,b]:=rfl
theorem app12 (a b c:Value):#[a]++#[b,c]=#[a,b,c]:=rfl
theorem app21 (a b c:Value):#[a,b]++#[c]=#[a,b,c]:=rfl
theorem app22 (a b c d:Value):#[a,b]++#[c,d]=#[a,b,c,d]:=rfl
theorem app23 (a b c d e:Value):#[a,b]++#[c,d,e]=#[a,b,c,d,e]:=rfl
theorem app20 (a b:Value):#[a,b]++(#[]:Array Value)=#[a,b]:=rfl
theorem cont_of (A:Option Addr) (n c:Nat) (xs:List Int) (x:Int) (w:World) (h:ISl w .i64 A n c xs):Calls Tryz.prog 122 #[.slice A n c,.int .i64 x] w fun e w'=>e=.returned (.bool (memB xs x))∧w=w':=by
 have:=vDa ⟨A,n,c⟩ xs x w h
 rwa [show xs.contains x=memB xs x by unfold memB;simp] at this
theorem rises_any (A:Option Addr) (n c:Nat) (xs:List Int) (hi:Int) (w:World) (h:ISl w .i64 A n c xs):Calls Tryz.prog 80 #[.slice A n c,.int .i64 hi] w fun e w'=>e=.returned (.bool (rsB xs hi))∧Drew w w':=by
 have hl:=h.len
 by_cases hn:n=0
 · subst hn
   obtain rfl:xs=[]:=List.eq_nil_of_length_eq_zero hl;rw [show rsB [] hi=true by unfold rsB;simp];clear h hl
   go_enter Tryz.func80,Tryz.ntmps80
   go_wp2;go_ret;exact ⟨rfl,Drew.refl _⟩
 · have ne:((n:Int) == 0)=false:=by simp;omega
   rw [show rsB xs hi=vBs xs 1 hi by unfold rsB;rw [decide_eq_false (fun e=>by rw [e] at hl;exact hn hl.symm)];rfl];have R:=hid (ris_any A n c xs 1 hi w h);clear h hl hn
   go_enter Tryz.func80,Tryz.ntmps80
   go_wp2_with (go_at_call 133;(with_reducible refine R.out.mono ?_);rintro e w1 ⟨rfl,hd⟩);go_ret;exact ⟨rfl,hd⟩
theorem member_any2 (P:PortV) (s:Sl3) (v:Int) (w:World) (F:Nat→Prop) (hF:∀b,F b→b<w.heap.size) (h:RSl (Rdr.int .i64) w F s.A s.n s.c P.tagged):Calls Tryz.prog 153 #[.agg #[.int .i64 P.row,.int .i64 P.dev,.int .i64 P.native,.int .i64 P.cost,.int .i64 P.link,.string (str P.name),.slice s.A s.n s.c],.int .i64 v] w fun e w'=>e=.returned (.bool (mbrB P v))∧Below w.heap.size w w':=by
 have IN:=hid (fun (w':World) (hb:Below w.heap.size w w')=>cont_of s.A s.n s.c P.tagged v w' (vAu (h.below hF hb)));unfold mbrB
 by_cases h0:v=0
 · have e:(decide (v≠0) && (decide (P.native=v) || memB P.tagged v))=false:=by rw [decide_eq_false (by simpa using h0)];rfl
   rw [e]
   have ne:(v != 0)=false:=by simpa using h0
   clear h h0 e
   go_enter Tryz.func153,Tryz.ntmps153
   go_wp2;go_ret;exact ⟨rfl,(Below.refl _ _).alloc (Nat.le_refl _) _⟩
 · have ne:(v != 0)=true:=by simpa using h0
   by_cases h1:P.native=v
   · have e:(decide (v≠0) && (decide (P.native=v) || memB P.tagged v))=true:=by rw [decide_eq_true h0,decide_eq_true h1];rfl
     rw [e]
     have ne2:(P.native == v)=true:=by simpa using h1
     clear h h0 e h1
     go_enter Tryz.func153,Tryz.ntmps153
     go_wp2;go_ret;exact ⟨rfl,(Below.refl _ _).alloc (Nat.le_refl _) _⟩
   · have e:(decide (v≠0) && (decide (P.native=v) || memB P.tagged v))=memB P.tagged v:=by rw [decide_eq_true h0,decide_eq_false h1];rfl
     rw [e]
     have ne2:(P.native == v)=false:=by simpa using h1
     generalize memB P.tagged v=V at *;clear h h0 e h1
     go_enter Tryz.func153,Tryz.ntmps153
     go_wp2_with (go_at_call 122;(with_reducible refine (IN.out _ ((Below.refl _ _).alloc (Nat.le_refl _) _)).mono ?_);rintro e w1 ⟨rfl,rfl⟩);go_ret;exact ⟨rfl,(Below.refl _ _).alloc (Nat.le_refl _) _⟩
theorem joins_any (L:LinkV) (p:Int) (w:World):Calls Tryz.prog 124 #[.agg #[.int .i64 L.row,.int .i64 L.a,.int .i64 L.b],.int .i64 p] w fun e w'=>e=.returned (.bool (decide (L.a=p) || decide (L.b=p)))∧Below w.heap.size w w':=by
 by_cases h0:L.a=p
 · have e:(L.a == p)=true:=by simpa using h0
   rw [decide_eq_true h0];clear h0
   go_enter Tryz.func124,Tryz.ntmps124
   go_wp2;go_ret;exact ⟨rfl,(Below.refl _ _).alloc (Nat.le_refl _) _⟩
 · have e:(L.a == p)=false:=by simpa using h0
   rw [decide_eq_false h0]
   by_cases h1:L.b=p
   all_goals
    first|rw [decide_eq_true h1]|rw [decide_eq_false h1]
    have e2:(L.b == p)=decide (L.b=p):=by by_cases g:L.b=p<;>simp [g]
    first|rw [decide_eq_true h1] at e2|rw [decide_eq_false h1] at e2
    clear h0 h1
    go_enter Tryz.func124,Tryz.ntmps124
    go_wp2;go_ret;exact ⟨rfl,(Below.refl _ _).alloc (Nat.le_refl _) _⟩
theorem find1_any (D:DomV) (s:Sl3) (dev v:Int) (q1 q2:Nat) (w:World) (c1:w.cell? ⟨q1,0,none⟩=some (.int .i64 dev)) (c2:w.cell? ⟨q2,0,none⟩=some (.int .i64 v)):
 Calls Tryz.prog 136 #[.agg #[.int .i64 D.dev,.int .i64 D.vlan,.int .i64 D.vni,.int .i64 D.irb,.int .i64 D.row,.slice s.A s.n s.c],.pointer (some ⟨q1,0,none⟩),.pointer (some ⟨q2,0,none⟩)] w fun e w'=>e=.returned (.bool (decide (D.dev=dev∧D.vlan=v)))∧Below w.heap.size w w':=by
 have l1:=World.block_lt_of_cell? w _ c1;have l2:=World.block_lt_of_cell? w _ c2;dsimp only at l1 l2
 by_cases h0:D.dev=dev
 · have e:(D.dev == dev)=true:=by simpa using h0
   by_cases h1:D.vlan=v
   · have e2:(D.vlan == v)=true:=by simpa using h1
     rw [decide_eq_true ⟨h0,h1⟩];clear h0 h1
     go_enter Tryz.func136,Tryz.ntmps136
     go_wp2;go_ret;exact ⟨rfl,(Below.refl _ _).alloc (Nat.le_refl _) _⟩
   · have e2:(D.vlan == v)=false:=by simpa using h1
     rw [decide_eq_false (fun g=>h1 g.2)];clear h0 h1
     go_enter Tryz.func136,Tryz.ntmps136
     go_wp2;go_ret;exact ⟨rfl,(Below.refl _ _).alloc (Nat.le_refl _) _⟩
 · have e:(D.dev == dev)=false:=by simpa using h0
   rw [decide_eq_false (fun g=>h0 g.1)];clear h0
   go_enter Tryz.func136,Tryz.ntmps136
   go_wp2;go_ret;exact ⟨rfl,(Below.refl _ _).alloc (Nat.le_refl _) _⟩
theorem atK_fst (dev v:Int):∀(xs:List DomV) (k n:Nat),n=xs.length→(∃j,j<n∧atK xs dev v k=((k+j:Nat):Int)∧((xs.getD j DomV.zero).dev=dev∧(xs.getD j DomV.zero).vlan=v)∧∀i,i<j→¬((xs.getD i DomV.zero).dev=dev∧(xs.getD i DomV.zero).vlan=v))∨(atK xs dev v k= -1∧∀i,i<n→¬((xs.getD i DomV.zero).dev=dev∧(xs.getD i DomV.zero).vlan=v))
 | [],k,n,h=>.inr ⟨rfl,fun i hi=>absurd hi (by simp at h;omega)⟩
 |d :: r,k,n,h=>by
  by_cases hd:d.dev=dev∧d.vlan=v
  · exact .inl ⟨0,by simp at h;omega,by rw [atK,if_pos hd];simp,hd,fun i hi=>absurd hi (by omega)⟩
  · rcases atK_fst dev v r (k+1) r.length rfl with ⟨j,h1,h2,h3,h4⟩|⟨h1,h2⟩
    · refine .inl ⟨j+1,by simp at h;omega,by rw [atK,if_neg hd,h2];congr 1;omega,by simpa using h3,fun i hi=>?_⟩
      match i with
      |0=>simpa using hd
      |i+1=>simpa using h4 i (by omega)
    · refine .inr ⟨by rw [atK,if_neg hd,h1],fun i hi=>?_⟩
      match i with
      |0=>simpa using hd
      |i+1=>simpa using h2 i (by simp at h;omega)
theorem atF_fst (N:NV) (dev v:Int) (n:Nat) (hn:N.domains.length=n):IsFst (fun k=>decide ((N.domains.getD k DomV.zero).dev=dev∧(N.domains.getD k DomV.zero).vlan=v)) n (atF N dev v):=by
 rcases atK_fst dev v N.domains 0 n hn.symm with ⟨j,h1,h2,h3,h4⟩|⟨h1,h2⟩
 · exact .inl ⟨j,h1,by unfold atF;rw [h2];congr 1;omega,decide_eq_true h3,fun i hi=>decide_eq_false (h4 i hi)⟩
 · exact .inr ⟨h1,fun i hi=>decide_eq_false (h2 i hi)⟩
theorem enters_find1:vAz Tryz.prog 136:=vAt Tryz.func136 (by kernel_rfl) rfl
theorem find_any (N:NV) (S:NSl3) (dev v:Int) (w:World) (h:NRead w (vAp w) N S):Calls Tryz.prog 86 #[vAm S,.int .i64 dev,.int .i64 v] w fun e w'=>e=.returned (.int .i64 (atF N dev v))∧Below w.heap.size w w':=by
 have IX:=hid (fun (w':World) (hb:Below w.heap.size w w') (q1 q2:Nat) (c1:w'.cell? ⟨q1,0,none⟩=some (.int .i64 dev)) (c2:w'.cell? ⟨q2,0,none⟩=some (.int .i64 v))=>
  idx_dom 136 #[.pointer (some ⟨q1,0,none⟩),.pointer (some ⟨q2,0,none⟩)] enters_find1 S.dm.A S.dm.n S.dm.c N.domains w' (vAn h.dm hb) _ (fun k s w2 hk hb2 hl=>by
   rw [app12]
   exact find1_any _ s dev v q1 q2 w2 ((hb2.cell (p:=⟨q1,0,none⟩) (World.block_lt_of_cell? w' _ c1)).trans c1) ((hb2.cell (p:=⟨q2,0,none⟩) (World.block_lt_of_cell? w' _ c2)).trans c2)) (atF N dev v) (atF_fst N dev v S.dm.n h.dm.len))
 clear h;unfold vAm;generalize atF N dev v=V at *;obtain ⟨W3,hW3⟩:∃W3,((w.alloc (.cells (nA S) 31)).alloc (.cells #[.int .i64 dev] 3)).alloc (.cells #[.int .i64 v] 3)=W3:=⟨_,rfl⟩;have k1:Below w.heap.size w (w.alloc (.cells (nA S) 31)):=(Below.refl _ _).alloc (Nat.le_refl _) _;have k2:Below w.heap.size w ((w.alloc (.cells (nA S) 31)).alloc (.cells #[.int .i64 dev] 3)):=k1.alloc (by simp) _;have B3:=hid (show Below w.heap.size w W3 by rw [←hW3];exact k2.alloc (by simp;omega) _)
 clear k1 k2;have R:=hid (IX.out W3 B3.out (w.heap.size+1) (w.heap.size+2) (by rw [←hW3];simp [go_sem]) (by rw [←hW3];simp [go_sem]));subst hW3;clear IX
 go_enter Tryz.func86,Tryz.ntmps86
 go_wp2_with (go_at_call 113;(with_reducible refine R.out.mono ?_);rintro e w1 ⟨rfl,hb⟩;have B:=hid (vAa B3.out hb);clear hb);go_ret;exact ⟨rfl,B.out⟩
theorem has_any (P:PortV) (s:Sl3) (D:DomV) (t:Sl3) (w:World) (h:RSl (Rdr.int .i64) w (vAp w) s.A s.n s.c P.tagged):Calls Tryz.prog 132 #[.agg #[.int .i64 P.row,.int .i64 P.dev,.int .i64 P.native,.int .i64 P.cost,.int .i64 P.link,.string (str P.name),.slice s.A s.n s.c],.agg #[.int .i64 D.dev,.int .i64 D.vlan,.int .i64 D.vni,.int .i64 D.irb,.int .i64 D.row,.slice t.A t.n t.c]] w fun e w'=>e=.returned (.bool (decide (P.dev=D.dev) && mbrB P D.vlan))∧Below w.heap.size w w':=by
 have MB:=hid (fun (w':World) (hb:Below w.heap.size w w')=>member_any2 P s D.vlan w' (vAp w') (fun _ hb=>hb) (vAn h hb));clear h;generalize mbrB P D.vlan=V at *;have B2:=hid (show Below w.heap.size w ((w.alloc (.cells #[.int .i64 P.row,.int .i64 P.dev,.int .i64 P.native,.int .i64 P.cost,.int .i64 P.link,.string (str P.name),.slice s.A s.n s.c] 68)).alloc (.cells #[.int .i64 D.dev,.int .i64 D.vlan,.int .i64 D.vni,.int .i64 D.irb,.int .i64 D.row,.slice t.A t.n t.c] 54)) from ((Below.refl _ _).alloc (Nat.le_refl _) _).alloc (by simp) _)
 by_cases h0:P.dev=D.dev
 · have e:(P.dev == D.dev)=true:=by simpa using h0
   rw [decide_eq_true h0];clear h0
   go_enter Tryz.func132,Tryz.ntmps132
   go_wp2_with (go_at_call 153;(with_reducible refine (MB.out _ B2.out).mono ?_);rintro e w1 ⟨rfl,hb⟩;have B:=hid (vAa B2.out hb);clear hb);go_ret;exact ⟨by simp,B.out⟩
 · have e:(P.dev == D.dev)=false:=by simpa using h0
   rw [decide_eq_false h0];clear h0
   go_enter Tryz.func132,Tryz.ntmps132
   go_wp2;go_ret;exact ⟨rfl,B2.out⟩
def Cs (w:World) (q:Nat) (l:List Value):Prop:=(∀j v,l[j]?=some v→w.cell? ⟨q,j,none⟩=some v)∧q<w.heap.size
theorem Cs.below {w w':World} {q:Nat} {l:List Value} (h:Cs w q l) (hb:Below w.heap.size w w'):Cs w' q l:=
 ⟨fun j v hj=>(hb.cell (p:=⟨q,j,none⟩) h.2).trans (h.1 j v hj),Nat.lt_of_lt_of_le h.2 hb.size⟩
theorem Cs.new (w:World) (l:List Value) (T:TypeId):Cs (w.alloc (.cells l.toArray T)) w.heap.size l:=
 ⟨fun j v hj=>by rw [World.cell?_alloc_new];simpa using hj,by simp⟩
theorem vAc (w:World) (o:Obj):Below w.heap.size w (w.alloc o):=(Below.refl _ _).alloc (Nat.le_refl _) _
theorem vBc (w:World) (o p:Obj):Below w.heap.size w ((w.alloc o).alloc p):=(vAc w o).alloc (by simp) _
theorem alloc3_below (w:World) (o p q:Obj):Below w.heap.size w (((w.alloc o).alloc p).alloc q):=(vBc w o p).alloc (by simp;omega) _
theorem vHk {w:World} (S:NSl3) (T U:TypeId) (l:List Value) {W:World} (hW:(w.alloc (.cells (nA S) T)).alloc (.cells l.toArray U)=W):Cs W w.heap.size (vBk S)∧Cs W (w.heap.size+1) l∧Below w.heap.size w W:=by
 subst hW;have h1:Cs (w.alloc (.cells (nA S) T)) w.heap.size (vBk S):=Cs.new w (vBk S) T;have h2:=Cs.new (w.alloc (.cells (nA S) T)) l U;rw [show (w.alloc (.cells (nA S) T)).heap.size=w.heap.size+1 by simp] at h2;exact ⟨h1.below (vAc _ _),h2,vBc _ _ _⟩
def lkB (N:NV) (i:Nat) (L:LinkV):Bool:=plB L.a (N.ports.length:Int) && (plB L.b (N.ports.length:Int) && (decide ((N.ports.getD L.a.toNat PortV.zero).dev≠(N.ports.getD L.b.toNat PortV.zero).dev) && (decide ((N.ports.getD L.a.toNat PortV.zero).link=(i:Int)) && decide ((N.ports.getD L.b.toNat PortV.zero).link=(i:Int)))))
theorem lkB_iff (N:NV) (i:Nat) (L:LinkV):lkB N i L=true↔LinkOk N i L:=by
 simp only [lkB,Bool.and_eq_true,decide_eq_true_eq];exact ⟨fun ⟨h1,h2,h3,h4,h5⟩=>⟨h1,h2,h3,h4,h5⟩,fun h=>⟨h.a,h.b,h.dev,h.la,h.lb⟩⟩
theorem link_any (N:NV) (S:NSl3) (i:Nat) (L:LinkV) (w:World) (h:NRead w (vAp w) N S):Calls Tryz.prog 69 #[vAm S,.int .i64 (i:Int),.agg #[.int .i64 L.row,.int .i64 L.a,.int .i64 L.b]] w fun e w'=>e=.returned (.bool (lkB N i L))∧Below w.heap.size w w':=by
 have HP:=hid h.pt;have hle:=h.pt.le;have hcap:=h.pt.cap;have PL:=h.pt.len
 have PA:=fun w'=>vHq L.a S.pt.A S.pt.n S.pt.c hle hcap w'
 have PB:=fun w'=>vHq L.b S.pt.A S.pt.n S.pt.c hle hcap w'
 obtain ⟨V,E⟩:∃V,lkB N i L=V:=⟨_,rfl⟩;rw [E];unfold lkB at E;rw [PL] at E;obtain ⟨va,ha⟩:∃v,plB L.a (S.pt.n:Int)=v:=⟨_,rfl⟩;obtain ⟨vb,hb⟩:∃v,plB L.b (S.pt.n:Int)=v:=⟨_,rfl⟩;rw [ha] at PA E;rw [hb] at PB E;have E:=hid E;have HA:=hid ha;have HB:=hid hb;have PA:=hid PA;have PB:=hid PB;clear h PL ha hb;unfold vAm
 go_enter Tryz.func69,Tryz.ntmps69
 go_upto_region 1 with fail
 obtain ⟨W,hW⟩:∃W,(w.alloc (.cells (nA S) 31)).alloc (.cells #[.int .i64 L.row,.int .i64 L.a,.int .i64 L.b] 84)=W:=⟨_,rfl⟩;have NC:=vHk S _ _ [.int .i64 L.row,.int .i64 L.a,.int .i64 L.b] hW;rw [hW];clear hW
 have KQ:=hid (show ∀wx,Below W.heap.size W wx→(NF wx w.heap.size S)∧(wx.cell? ⟨w.heap.size+1,0,none⟩=some (.int .i64 L.row)∧wx.cell? ⟨w.heap.size+1,1,none⟩=some (.int .i64 L.a)∧wx.cell? ⟨w.heap.size+1,2,none⟩=some (.int .i64 L.b))∧Below w.heap.size w wx from fun wx hx=>by
  have n:=(NC.1.below hx).1;have r:=(NC.2.1.below hx).1
  exact ⟨⟨n 0 _ rfl,n 1 _ rfl,n 2 _ rfl,n 3 _ rfl,n 4 _ rfl,n 5 _ rfl,n 6 _ rfl,n 7 _ rfl⟩,⟨r 0 _ rfl,r 1 _ rfl,r 2 _ rfl⟩,NC.2.2.trans (hx.mono NC.2.2.size)⟩)
 obtain ⟨⟨f0,f1,f2,f3,f4,f5,f6,f7⟩,⟨g0,g1,g2⟩,hB0⟩:=KQ.out W (Below.refl _ _);have ql:w.heap.size<W.heap.size:=NC.1.2;have ql2:w.heap.size+1<W.heap.size:=NC.2.1.2;have B0:=hid hB0;clear hB0 NC
 cases va with
 |false=>
  have EV:=hid (show V=false by rw [←E.out];rfl);go_wp2_with ((go_at_call 127;(with_reducible refine (PA.out _).mono ?_);rintro e wp ⟨rfl,hwp⟩;subst hwp));go_ret;exact ⟨by rw [EV.out];rfl,B0.out⟩
 |true=>
 cases vb with
 |false=>
  have EV:=hid (show V=false by rw [←E.out];rfl);go_wp2_with (first|(go_at_call 127;(with_reducible refine (PA.out _).mono ?_);rintro e wp ⟨rfl,hwp⟩;subst hwp)|(go_at_call 127;(with_reducible refine (PB.out _).mono ?_);rintro e wp ⟨rfl,hwp⟩;subst hwp));go_ret;exact ⟨by rw [EV.out];rfl,B0.out⟩
 |true=>
 go_upto_region 3 with (first|(go_at_call 127;(with_reducible refine (PA.out _).mono ?_);rintro e wp ⟨rfl,hwp⟩;subst hwp)|(go_at_call 127;(with_reducible refine (PB.out _).mono ?_);rintro e wp ⟨rfl,hwp⟩;subst hwp))
 obtain ⟨a1,a2⟩:=(vBb _ _).1 HA.out;obtain ⟨c1,c2⟩:=(vBb _ _).1 HB.out;obtain ⟨x,hx⟩:=Int.eq_ofNat_of_zero_le a1;obtain ⟨y,hy⟩:=Int.eq_ofNat_of_zero_le c1
 have hxl:x<S.pt.n:=by omega
 have hyl:y<S.pt.n:=by omega
 obtain ⟨bp,op,vp,ep,_,hbp,⟨s,rfl,_⟩,rp⟩:=vAi HP.out x hxl PortV.zero;obtain ⟨bq,oq,vq,eq_,_,_,⟨t,rfl,_⟩,rq⟩:=vAi HP.out y hyl PortV.zero;rw [ep] at eq_
 injection eq_ with eq_
 injection eq_ with h1 h2
 subst h1 h2;have RP:=vAb rp (B0.out.block bp hbp);have RQ:=vAb rq (B0.out.block bp hbp);have E2:=E.out;rw [show L.a.toNat=x by rw [hx];rfl,show L.b.toNat=y by rw [hy];rfl] at E2;rw [hx] at g1;rw [hy] at g2;clear E;generalize N.ports.getD x PortV.zero=P at *;generalize N.ports.getD y PortV.zero=Q at *;have E:=hid E2;clear E2;have p0:=RP 0 _ rfl;have q0:=RQ 0 _ rfl;have p1:=RP 1 _ rfl
 have q1:=RQ 1 _ rfl;have p2:=RP 2 _ rfl;have q2:=RQ 2 _ rfl;have p3:=RP 3 _ rfl;have q3:=RQ 3 _ rfl;have p4:=RP 4 _ rfl;have q4:=RQ 4 _ rfl;have p5:=RP 5 _ rfl;have q5:=RQ 5 _ rfl;have p6:=RP 6 _ rfl;have q6:=RQ 6 _ rfl;simp only [Nat.add_zero] at p0 q0;rw [show op+x * portR.n=op+x * 7 from rfl] at p0 p1 p2 p3 p4 p5 p6;rw [show op+y * portR.n=op+y * 7 from rfl] at q0 q1 q2 q3 q4 q5 q6
 have lx:(x:Int)<(S.pt.n:Int):=by omega
 have ly:(y:Int)<(S.pt.n:Int):=by omega
 rw [ep] at f1;have hbp1:bp<W.heap.size:=Nat.lt_of_lt_of_le hbp B0.out.size;clear rp rq RP RQ a1 a2 c1 c2 hx hy ep PA PB HA HB;have SK:=hid (show ∀wx,Below W.heap.size W wx→(wx.cell? ⟨w.heap.size,1,none⟩=some (.slice (some ⟨bp,op,none⟩) S.pt.n S.pt.c)∧wx.cell? ⟨w.heap.size+1,1,none⟩=some (.int .i64 (x:Int))∧wx.cell? ⟨w.heap.size+1,2,none⟩=some (.int .i64 (y:Int))∧wx.cell? ⟨bp,op+x * 7,none⟩=some (.int .i64 P.row)∧wx.cell? ⟨bp,op+x * 7+1,none⟩=some (.int .i64 P.dev)∧wx.cell? ⟨bp,op+x * 7+2,none⟩=some (.int .i64 P.native)∧wx.cell? ⟨bp,op+x * 7+3,none⟩=some (.int .i64 P.cost)∧wx.cell? ⟨bp,op+x * 7+4,none⟩=some (.int .i64 P.link)∧wx.cell? ⟨bp,op+x * 7+5,none⟩=some (.string (str P.name))∧wx.cell? ⟨bp,op+x * 7+6,none⟩=some (.slice s.A s.n s.c)∧wx.cell? ⟨bp,op+y * 7,none⟩=some (.int .i64 Q.row)∧wx.cell? ⟨bp,op+y * 7+1,none⟩=some (.int .i64 Q.dev)∧wx.cell? ⟨bp,op+y * 7+2,none⟩=some (.int .i64 Q.native)∧wx.cell? ⟨bp,op+y * 7+3,none⟩=some (.int .i64 Q.cost)∧wx.cell? ⟨bp,op+y * 7+4,none⟩=some (.int .i64 Q.link)∧wx.cell? ⟨bp,op+y * 7+5,none⟩=some (.string (str Q.name))∧wx.cell? ⟨bp,op+y * 7+6,none⟩=some (.slice t.A t.n t.c)) from fun wx hx=>⟨(hx.cell (p:=⟨_,1,none⟩) ql).trans f1,(hx.cell (p:=⟨_,1,none⟩) ql2).trans g1,(hx.cell (p:=⟨_,2,none⟩) ql2).trans g2,(hx.cell (p:=⟨bp,_,none⟩) hbp1).trans p0,(hx.cell (p:=⟨bp,_,none⟩) hbp1).trans p1,(hx.cell (p:=⟨bp,_,none⟩) hbp1).trans p2,(hx.cell (p:=⟨bp,_,none⟩) hbp1).trans p3,(hx.cell (p:=⟨bp,_,none⟩) hbp1).trans p4,(hx.cell (p:=⟨bp,_,none⟩) hbp1).trans p5,(hx.cell (p:=⟨bp,_,none⟩) hbp1).trans p6,(hx.cell (p:=⟨bp,_,none⟩) hbp1).trans q0,(hx.cell (p:=⟨bp,_,none⟩) hbp1).trans q1,(hx.cell (p:=⟨bp,_,none⟩) hbp1).trans q2,(hx.cell (p:=⟨bp,_,none⟩) hbp1).trans q3,(hx.cell (p:=⟨bp,_,none⟩) hbp1).trans q4,(hx.cell (p:=⟨bp,_,none⟩) hbp1).trans q5,(hx.cell (p:=⟨bp,_,none⟩) hbp1).trans q6⟩)
 go_cut [7,8] (fun p q wx=>∃b7 b8,p=.pointer (some ⟨b7,0,none⟩)∧q=.pointer (some ⟨b8,0,none⟩)∧Cs wx b7 [.int .i64 P.row,.int .i64 P.dev,.int .i64 P.native,.int .i64 P.cost,.int .i64 P.link,.string (str P.name),.slice s.A s.n s.c]∧Cs wx b8 [.int .i64 Q.row,.int .i64 Q.dev,.int .i64 Q.native,.int .i64 Q.cost,.int .i64 Q.link,.string (str Q.name),.slice t.A t.n t.c]∧Below W.heap.size W wx)
 case first=>
  go_region_held_law (fun w'=>(w'.cell? ⟨w.heap.size,1,none⟩=some (.slice (some ⟨bp,op,none⟩) S.pt.n S.pt.c)∧w'.cell? ⟨w.heap.size+1,1,none⟩=some (.int .i64 (x:Int))∧w'.cell? ⟨w.heap.size+1,2,none⟩=some (.int .i64 (y:Int))∧w'.cell? ⟨bp,op+x * 7,none⟩=some (.int .i64 P.row)∧w'.cell? ⟨bp,op+x * 7+1,none⟩=some (.int .i64 P.dev)∧w'.cell? ⟨bp,op+x * 7+2,none⟩=some (.int .i64 P.native)∧w'.cell? ⟨bp,op+x * 7+3,none⟩=some (.int .i64 P.cost)∧w'.cell? ⟨bp,op+x * 7+4,none⟩=some (.int .i64 P.link)∧w'.cell? ⟨bp,op+x * 7+5,none⟩=some (.string (str P.name))∧w'.cell? ⟨bp,op+x * 7+6,none⟩=some (.slice s.A s.n s.c)∧w'.cell? ⟨bp,op+y * 7,none⟩=some (.int .i64 Q.row)∧w'.cell? ⟨bp,op+y * 7+1,none⟩=some (.int .i64 Q.dev)∧w'.cell? ⟨bp,op+y * 7+2,none⟩=some (.int .i64 Q.native)∧w'.cell? ⟨bp,op+y * 7+3,none⟩=some (.int .i64 Q.cost)∧w'.cell? ⟨bp,op+y * 7+4,none⟩=some (.int .i64 Q.link)∧w'.cell? ⟨bp,op+y * 7+5,none⟩=some (.string (str Q.name))∧w'.cell? ⟨bp,op+y * 7+6,none⟩=some (.slice t.A t.n t.c))) ((refine SK.out _ ?_;(repeat (first|exact Below.refl _ _|exact vAc _ _|exact vBc _ _ _|(with_reducible refine Below.alloc ?_ (by simp<;>omega) _)|refine vAd ?_ 1)))) (fail)
  all_goals (try go_wp2)
  all_goals go_meet
  all_goals (refine ⟨_,_,rfl,rfl,?_,?_,?_⟩)
  all_goals first
   |(refine ⟨fun j v hj=>?_,by (simp<;>omega)⟩;rcases j with _|_|_|_|_|_|_|j<;>first|(simp at hj;done)|(simp at hj;subst hj;simp [go_sem];done))
   |(repeat (first|exact Below.refl _ _|exact vAc _ _|exact vBc _ _ _|(with_reducible refine Below.alloc ?_ (by simp<;>omega) _)|refine vAd ?_ 1))
 case rest=>
 obtain ⟨b7,b8,rfl,rfl,C7,C8,hbw⟩:=hcut;rename World=>w7;obtain ⟨_,_,hB7⟩:=KQ.out _ hbw;have B7:=hid hB7;have m1:=C7.1 1 _ rfl;have m4:=C7.1 4 _ rfl;have o1_:=C8.1 1 _ rfl;have o4_:=C8.1 4 _ rfl;clear p0 p1 p2 p3 p4 p5 p6 q0 q1 q2 q3 q4 q5 q6 f0 f1 f2 f3 f4 f5 f6 f7 g0 g1 g2 hB7 hbw C7 C8
 by_cases t1:P.dev=Q.dev
 · have z1:(P.dev != Q.dev)=false:=by simpa using t1
   have EV:=hid (show V=false by rw [←E.out,decide_eq_false (show ¬P.dev≠Q.dev from fun g=>g t1)];rfl);clear t1;go_wp2;go_ret;exact ⟨by rw [EV.out];rfl,B7.out⟩
 have z1:(P.dev != Q.dev)=true:=by simpa using t1
 by_cases t2:P.link=(i:Int)
 rotate_left
 · have z2:(P.link == (i:Int))=false:=by simpa using t2
   have EV:=hid (show V=false by rw [←E.out,decide_eq_false t2];simp);clear t1 t2;go_wp2;go_ret;exact ⟨by rw [EV.out];rfl,B7.out⟩
 have z2:(P.link == (i:Int))=true:=by simpa using t2
 by_cases t3:Q.link=(i:Int)
 rotate_left
 · have z3:(Q.link == (i:Int))=false:=by simpa using t3
   have EV:=hid (show V=false by rw [←E.out,decide_eq_false t3];simp);clear t1 t2 t3;go_wp2;go_ret;exact ⟨by rw [EV.out];rfl,B7.out⟩
 have z3:(Q.link == (i:Int))=true:=by simpa using t3
 have EV:=hid (show V=true by rw [←E.out,decide_eq_true t1,decide_eq_true t2,decide_eq_true t3];rfl);clear t1 t2 t3;go_wp2;go_ret;exact ⟨by rw [EV.out];rfl,B7.out⟩
def meetB (N:NV) (x y:Nat):Bool:=decide ((N.domains.getD x DomV.zero).dev≠(N.domains.getD y DomV.zero).dev) && (decide ((N.devices.getD (N.domains.getD x DomV.zero).dev.toNat DevV.zero).vtep≠0) && (decide ((N.devices.getD (N.domains.getD y DomV.zero).dev.toNat DevV.zero).vtep≠0) && (decide ((N.domains.getD x DomV.zero).vni≠0) && (decide ((N.domains.getD x DomV.zero).vni=(N.domains.getD y DomV.zero).vni) && memB (N.domains.getD y DomV.zero).peers (x:Int)))))
theorem net_c1 {w:World} (S:NSl3) (T:TypeId) {W:World} (hW:w.alloc (.cells (nA S) T)=W):Cs W w.heap.size (vBk S)∧Below w.heap.size w W:=by
 subst hW;exact ⟨Cs.new w (vBk S) T,vAc _ _⟩
theorem meet_any (N:NV) (S:NSl3) (x y:Nat) (w:World) (h:NRead w (vAp w) N S) (hxl:x<S.dm.n) (hyl:y<S.dm.n) (hd:∀j,j<N.domains.length→plB (N.domains.getD j DomV.zero).dev (N.devices.length:Int)=true):
 Calls Tryz.prog 131 #[vAm S,.int .i64 (x:Int),.int .i64 (y:Int)] w fun e w'=>e=.returned (.bool (meetB N x y))∧Below w.heap.size w w':=by
 have HD:=hid h.dm;have HV:=hid h.dv;have hle:=h.dm.le;have hcap:=h.dm.cap;have hle2:=h.dv.le;have hcap2:=h.dv.cap;have dml:=h.dm.len;have dvl:=h.dv.len;rw [dml,dvl] at hd;have HDD:=hid hd;obtain ⟨V,E⟩:∃V,meetB N x y=V:=⟨_,rfl⟩;rw [E];have E:=hid E;clear h hd dml dvl;unfold vAm
 go_enter Tryz.func131,Tryz.ntmps131
 go_upto_region 1 with fail
 obtain ⟨W,hW⟩:∃W,w.alloc (.cells (nA S) 31)=W:=⟨_,rfl⟩;have NC:=net_c1 S _ hW;rw [hW];clear hW;have B0:=hid NC.2;have f0:=NC.1.1 0 _ rfl;have f3:=NC.1.1 3 _ rfl;have ql:w.heap.size<W.heap.size:=NC.1.2;clear NC;have HDX:=HDD.out x hxl;have HDY:=HDD.out y hyl;obtain ⟨bp,op,vp,ep,_,hbp,⟨s,rfl,rs⟩,rp⟩:=vAi HD.out x hxl DomV.zero;obtain ⟨bq,oq,vq,eq_,_,_,⟨t,rfl,rt⟩,rq⟩:=vAi HD.out y hyl DomV.zero
 rw [ep] at eq_
 injection eq_ with eq_
 injection eq_ with h1 h2
 subst h1 h2;have RP:=vAb rp (B0.out.block bp hbp);have RQ:=vAb rq (B0.out.block bp hbp);have E2:=E.out;unfold meetB at E2;clear E;generalize N.domains.getD x DomV.zero=D at *;generalize N.domains.getD y DomV.zero=G at *;obtain ⟨c1,c2⟩:=(vBb _ _).1 HDX;obtain ⟨c3,c4⟩:=(vBb _ _).1 HDY;obtain ⟨dx,hx⟩:=Int.eq_ofNat_of_zero_le c1;obtain ⟨dy,hy⟩:=Int.eq_ofNat_of_zero_le c3
 have hdx:dx<S.dv.n:=by omega
 have hdy:dy<S.dv.n:=by omega
 obtain ⟨bd,od,vd,ed,_,hbd,hvd,rd⟩:=vAi HV.out dx hdx DevV.zero;obtain ⟨be,oe,ve,ee,_,_,hve,re⟩:=vAi HV.out dy hdy DevV.zero;rw [ed] at ee
 injection ee with ee
 injection ee with h1 h2
 subst h1 h2;have hvd:vd=vGt (N.devices.getD dx DevV.zero):=hvd;have hve:ve=vGt (N.devices.getD dy DevV.zero):=hve;subst hvd hve;have RD:=vAb rd (B0.out.block bd hbd);have RE:=vAb re (B0.out.block bd hbd);rw [show D.dev.toNat=dx by rw [hx];rfl,show G.dev.toNat=dy by rw [hy];rfl] at E2;generalize N.devices.getD dx DevV.zero=X at *;generalize N.devices.getD dy DevV.zero=Y at *;have E:=hid E2
 clear E2;have v4:=RD 4 _ rfl;have u4:=RE 4 _ rfl;rw [show od+dx * devR.n=od+dx * 5 from rfl] at v4;rw [show od+dy * devR.n=od+dy * 5 from rfl] at u4;have p0:=RP 0 _ rfl;have q0:=RQ 0 _ rfl;have p1:=RP 1 _ rfl;have q1:=RQ 1 _ rfl;have p2:=RP 2 _ rfl;have q2:=RQ 2 _ rfl;have p3:=RP 3 _ rfl;have q3:=RQ 3 _ rfl;have p4:=RP 4 _ rfl;have q4:=RQ 4 _ rfl;have p5:=RP 5 _ rfl;have q5:=RQ 5 _ rfl;simp only [Nat.add_zero] at p0 q0
 rw [show op+x * domR.n=op+x * 6 from rfl] at p0 p1 p2 p3 p4 p5;rw [show op+y * domR.n=op+y * 6 from rfl] at q0 q1 q2 q3 q4 q5
 have lx:(x:Int)<(S.dm.n:Int):=by omega
 have ly:(y:Int)<(S.dm.n:Int):=by omega
 have ldx:(dx:Int)<(S.dv.n:Int):=by omega
 have ldy:(dy:Int)<(S.dv.n:Int):=by omega
 rw [ep] at f3;rw [ed] at f0;rw [hx] at p0;rw [hy] at q0;have hbp1:bp<W.heap.size:=Nat.lt_of_lt_of_le hbp B0.out.size;have hbd1:bd<W.heap.size:=Nat.lt_of_lt_of_le hbd B0.out.size;have CT:=hid (fun (w':World) (hb:Below w.heap.size w w')=>cont_of t.A t.n t.c G.peers (x:Int) w' (vAu (vAn rt hb)));have HX:=hid hx;have HY:=hid hy;clear rp rq RP RQ rd re RD RE c1 c2 c3 c4 hx hy ep ed rs rt HDX HDY
 have SK:=hid (show ∀wx,Below W.heap.size W wx→(wx.cell? ⟨w.heap.size,3,none⟩=some (.slice (some ⟨bp,op,none⟩) S.dm.n S.dm.c)∧wx.cell? ⟨bp,op+x * 6,none⟩=some (.int .i64 (dx:Int))∧wx.cell? ⟨bp,op+x * 6+1,none⟩=some (.int .i64 D.vlan)∧wx.cell? ⟨bp,op+x * 6+2,none⟩=some (.int .i64 D.vni)∧wx.cell? ⟨bp,op+x * 6+3,none⟩=some (.int .i64 D.irb)∧wx.cell? ⟨bp,op+x * 6+4,none⟩=some (.int .i64 D.row)∧wx.cell? ⟨bp,op+x * 6+5,none⟩=some (.slice s.A s.n s.c)∧wx.cell? ⟨bp,op+y * 6,none⟩=some (.int .i64 (dy:Int))∧wx.cell? ⟨bp,op+y * 6+1,none⟩=some (.int .i64 G.vlan)∧wx.cell? ⟨bp,op+y * 6+2,none⟩=some (.int .i64 G.vni)∧wx.cell? ⟨bp,op+y * 6+3,none⟩=some (.int .i64 G.irb)∧wx.cell? ⟨bp,op+y * 6+4,none⟩=some (.int .i64 G.row)∧wx.cell? ⟨bp,op+y * 6+5,none⟩=some (.slice t.A t.n t.c)) from fun wx hx=>⟨(hx.cell (p:=⟨_,3,none⟩) ql).trans f3,(hx.cell (p:=⟨bp,_,none⟩) hbp1).trans p0,(hx.cell (p:=⟨bp,_,none⟩) hbp1).trans p1,(hx.cell (p:=⟨bp,_,none⟩) hbp1).trans p2,(hx.cell (p:=⟨bp,_,none⟩) hbp1).trans p3,(hx.cell (p:=⟨bp,_,none⟩) hbp1).trans p4,(hx.cell (p:=⟨bp,_,none⟩) hbp1).trans p5,(hx.cell (p:=⟨bp,_,none⟩) hbp1).trans q0,(hx.cell (p:=⟨bp,_,none⟩) hbp1).trans q1,(hx.cell (p:=⟨bp,_,none⟩) hbp1).trans q2,(hx.cell (p:=⟨bp,_,none⟩) hbp1).trans q3,(hx.cell (p:=⟨bp,_,none⟩) hbp1).trans q4,(hx.cell (p:=⟨bp,_,none⟩) hbp1).trans q5⟩)
 have KW:=hid (show ∀wx,Below W.heap.size W wx→wx.cell? ⟨w.heap.size,0,none⟩=some (.slice (some ⟨bd,od,none⟩) S.dv.n S.dv.c)∧wx.cell? ⟨bd,od+dx * 5+4,none⟩=some (.int .u32 X.vtep)∧wx.cell? ⟨bd,od+dy * 5+4,none⟩=some (.int .u32 Y.vtep)∧Below w.heap.size w wx from fun wx hx=>⟨(hx.cell (p:=⟨_,0,none⟩) ql).trans f0,(hx.cell (p:=⟨bd,_,none⟩) hbd1).trans v4,(hx.cell (p:=⟨bd,_,none⟩) hbd1).trans u4,B0.out.trans (hx.mono B0.out.size)⟩)
 go_cut [7,8] (fun p q wx=>∃b7 b8,p=.pointer (some ⟨b7,0,none⟩)∧q=.pointer (some ⟨b8,0,none⟩)∧Cs wx b7 [.int .i64 (dx:Int),.int .i64 D.vlan,.int .i64 D.vni,.int .i64 D.irb,.int .i64 D.row,.slice s.A s.n s.c]∧Cs wx b8 [.int .i64 (dy:Int),.int .i64 G.vlan,.int .i64 G.vni,.int .i64 G.irb,.int .i64 G.row,.slice t.A t.n t.c]∧Below W.heap.size W wx)
 case first=>
  go_region_held_law (fun w'=>(w'.cell? ⟨w.heap.size,3,none⟩=some (.slice (some ⟨bp,op,none⟩) S.dm.n S.dm.c)∧w'.cell? ⟨bp,op+x * 6,none⟩=some (.int .i64 (dx:Int))∧w'.cell? ⟨bp,op+x * 6+1,none⟩=some (.int .i64 D.vlan)∧w'.cell? ⟨bp,op+x * 6+2,none⟩=some (.int .i64 D.vni)∧w'.cell? ⟨bp,op+x * 6+3,none⟩=some (.int .i64 D.irb)∧w'.cell? ⟨bp,op+x * 6+4,none⟩=some (.int .i64 D.row)∧w'.cell? ⟨bp,op+x * 6+5,none⟩=some (.slice s.A s.n s.c)∧w'.cell? ⟨bp,op+y * 6,none⟩=some (.int .i64 (dy:Int))∧w'.cell? ⟨bp,op+y * 6+1,none⟩=some (.int .i64 G.vlan)∧w'.cell? ⟨bp,op+y * 6+2,none⟩=some (.int .i64 G.vni)∧w'.cell? ⟨bp,op+y * 6+3,none⟩=some (.int .i64 G.irb)∧w'.cell? ⟨bp,op+y * 6+4,none⟩=some (.int .i64 G.row)∧w'.cell? ⟨bp,op+y * 6+5,none⟩=some (.slice t.A t.n t.c))) ((refine SK.out _ ?_;(repeat (first|exact Below.refl _ _|exact vAc _ _|exact vBc _ _ _|(with_reducible refine Below.alloc ?_ (by simp<;>omega) _)|refine vAd ?_ 1)))) (fail)
  all_goals (try go_wp2)
  all_goals go_meet
  all_goals (refine ⟨_,_,rfl,rfl,?_,?_,?_⟩)
  all_goals first
   |(refine ⟨fun j v hj=>?_,by (simp<;>omega)⟩;rcases j with _|_|_|_|_|_|j<;>first|(simp at hj;done)|(simp at hj;subst hj;simp [go_sem];done))
   |(repeat (first|exact Below.refl _ _|exact vAc _ _|exact vBc _ _ _|(with_reducible refine Below.alloc ?_ (by simp<;>omega) _)|refine vAd ?_ 1))
 case rest=>
 obtain ⟨b7,b8,rfl,rfl,C7,C8,hbw⟩:=hcut;rename World=>w7;obtain ⟨k1,k2,k3,hB7⟩:=KW.out _ hbw;have B7:=hid hB7;have m0:=C7.1 0 _ rfl;have m2:=C7.1 2 _ rfl;have o0_:=C8.1 0 _ rfl;have o2_:=C8.1 2 _ rfl;have o5_:=C8.1 5 _ rfl;clear p0 p1 p2 p3 p4 p5 q0 q1 q2 q3 q4 q5 f0 f3 v4 u4 hB7 hbw C7 C8
 have HE:=hid (show (decide (dx≠dy) && (decide (X.vtep≠0) && (decide (Y.vtep≠0) && (decide (D.vni≠0) && (decide (D.vni=G.vni) && memB G.peers (x:Int))))))=V by
  rw [←E.out,HX.out,HY.out];congr 1
  by_cases g:dx=dy
  · rw [decide_eq_false (by simpa using g),decide_eq_false (show ¬(dx:Int)≠(dy:Int) by simp;omega)]
  · rw [decide_eq_true (by simpa using g),decide_eq_true (show (dx:Int)≠(dy:Int) by omega)])
 generalize memB G.peers (x:Int)=M at *;clear E HX HY
 by_cases t1:dx≠dy
 rotate_left
 · have z1:((dx:Int) != (dy:Int))=false:=by simp;omega
   have EV:=hid (show V=false by rw [←HE.out,decide_eq_false t1];simp);clear t1;go_wp2;go_ret;exact ⟨by rw [EV.out];rfl,B7.out⟩
 have z1:((dx:Int) != (dy:Int))=true:=by simp;omega
 by_cases t2:X.vtep≠0
 rotate_left
 · have z2:(X.vtep != 0)=false:=by simp;omega
   have EV:=hid (show V=false by rw [←HE.out,decide_eq_false t2];simp);clear t1 t2;go_wp2;go_ret;exact ⟨by rw [EV.out];rfl,B7.out⟩
 have z2:(X.vtep != 0)=true:=by simp;omega
 by_cases t3:Y.vtep≠0
 rotate_left
 · have z3:(Y.vtep != 0)=false:=by simp;omega
   have EV:=hid (show V=false by rw [←HE.out,decide_eq_false t3];simp);clear t1 t2 t3;go_wp2;go_ret;exact ⟨by rw [EV.out];rfl,B7.out⟩
 have z3:(Y.vtep != 0)=true:=by simp;omega
 by_cases t4:D.vni≠0
 rotate_left
 · have z4:(D.vni != 0)=false:=by simp;omega
   have EV:=hid (show V=false by rw [←HE.out,decide_eq_false t4];simp);clear t1 t2 t3 t4;go_wp2;go_ret;exact ⟨by rw [EV.out];rfl,B7.out⟩
 have z4:(D.vni != 0)=true:=by simp;omega
 by_cases t5:D.vni=G.vni
 rotate_left
 · have z5:(D.vni == G.vni)=false:=by simp;omega
   have EV:=hid (show V=false by rw [←HE.out,decide_eq_false t5];simp);clear t1 t2 t3 t4 t5;go_wp2;go_ret;exact ⟨by rw [EV.out];rfl,B7.out⟩
 have z5:(D.vni == G.vni)=true:=by simp;omega
 have EV:=hid (show M=V by rw [←HE.out,decide_eq_true t1,decide_eq_true t2,decide_eq_true t3,decide_eq_true t4,decide_eq_true t5];rfl);clear t1 t2 t3 t4 t5;go_wp2_with (go_at_call 122;(with_reducible refine (CT.out _ B7.out).mono ?_);rintro e w8 ⟨rfl,rfl⟩);go_ret;exact ⟨by rw [←EV.out];rfl,B7.out⟩
end Go.Proofs.YtgmflecelnefcaaGreat
