import Derived.Test.YtgmflecelnefcaaGreatOp39
import Derived.Test.YtgmflecelnefcaaGreatOp30
set_option maxRecDepth 100000
set_option maxHeartbeats 40000000
namespace Go.Proofs.YtgmflecelnefcaaGreat
open Go.Lib (hid)
open Go.RowKit
theorem fz2 {w' w2:World} {B:Nat} (hb:Below w'.heap.size w' w2) (q:B<w'.heap.size) (q2:B+1<w'.heap.size) (fz:∀o,w'.frozen? ⟨B,o,none⟩=false∧w'.frozen? ⟨B+1,o,none⟩=false):∀o,w2.frozen? ⟨B,o,none⟩=false∧w2.frozen? ⟨B+1,o,none⟩=false:=
 fun o=>⟨(World.frozen?_of_block (w:=w') (a:=⟨B,o,none⟩) (hb.block _ q)).trans (fz o).1,(World.frozen?_of_block (w:=w') (a:=⟨B+1,o,none⟩) (hb.block _ q2)).trans (fz o).2⟩
theorem rk_b {α:Type} {R:Rdr α} {w' w2:World} {H:Nat} {A:Option Addr} {n c:Nat} {xs:List α} (h:RSl R w' (NFB H w') A n c xs) (hb:Below w'.heap.size w' w2):RSl R w2 (NFB H w2) A n c xs:=
 h.keep (fun b g=>hb.block b g.2.1) (fun b g=>g.same (hb.block b g.2.1))
theorem rk_s {α:Type} {R:Rdr α} {w':World} {H:Nat} {A:Option Addr} {n c:Nat} {xs:List α} (h:RSl R w' (NFB H w') A n c xs) {q:Nat} (hq:q<H) (o:Nat) (v:Value):RSl R (w'.setCell ⟨q,o,none⟩ v) (NFB H (w'.setCell ⟨q,o,none⟩ v)) A n c xs:=
 h.keep (fun b g=>Below.heap_setCell _ _ _ _ (by have:=g.1;intro e;simp at e;omega)) (fun b g=>g.same (Below.heap_setCell _ _ _ _ (by have:=g.1;intro e;simp at e;omega)))
theorem res_port (tmps:Array Value) (W:World) (X:PortV) (u1:Sl3) (q:Nat) (h2:tmps[2]?.getD undef=.pointer (some ⟨q,0,none⟩)) (hb:Cs W q [.int .i64 X.row,.int .i64 X.dev,.int .i64 X.native,.int .i64 X.cost,.int .i64 X.link,.string (str X.name),.slice u1.A u1.n u1.c]):
 (results Tryz.f98 tmps).run Tryz.prog W=.ok (.agg #[.int .i64 X.row,.int .i64 X.dev,.int .i64 X.native,.int .i64 X.cost,.int .i64 X.link,.string (str X.name),.slice u1.A u1.n u1.c]) W:=by
 have t0:=hb.1 0 _ rfl;have t1:=hb.1 1 _ rfl;have t2:=hb.1 2 _ rfl;have t3:=hb.1 3 _ rfl;have t4:=hb.1 4 _ rfl;have t5:=hb.1 5 _ rfl;have t6:=hb.1 6 _ rfl;clear hb;simp [results,Tryz.results98,go_sem,h2,t0,t1,t2,t3,t4,t5,t6]
def Got_port (X:PortV) (w:World) (e:Ending) (w':World):Prop:=∃u1:Sl3,e=.returned (.agg #[.int .i64 X.row,.int .i64 X.dev,.int .i64 X.native,.int .i64 X.cost,.int .i64 X.link,.string (str X.name),.slice u1.A u1.n u1.c])∧RSl (Rdr.int .i64) w' (NFB w.heap.size w') u1.A u1.n u1.c X.tagged∧Below w.heap.size w w'
structure VI_port (X:PortV) (s:Sl3) (w W:World) (u1:Sl3) (x3 x4 x5 x6 x7 x8 x9 x10 x11:Value) (d:Nat→Bool) (w':World):Prop where
 h3:d 0=true→x3=.pointer (some ⟨w.heap.size,5,none⟩)
 h4:d 1=true→x4=.string (str X.name)
 h5:d 2=true→x5=.string (str X.name)
 h6:d 3=true→x6=.pointer (some ⟨w.heap.size,6,none⟩)
 h7:d 4=true→x7=.slice s.A s.n s.c
 h8:d 5=true→x8=.slice u1.A u1.n u1.c
 h9:d 6=true→x9=.pointer (some ⟨w.heap.size,5,none⟩)
 h10:d 8=true→x10=.pointer (some ⟨w.heap.size,6,none⟩)
 k9:d 9=true→d 4=true
 l9:d 9=true→d 5=true
 k5:d 5=true→d 4=true
 r1:d 5=true→RSl (Rdr.int .i64) w' (NFB W.heap.size w') u1.A u1.n u1.c X.tagged
 c0:w'.cell? ⟨w.heap.size,0,none⟩=some (.int .i64 X.row)
 c1:w'.cell? ⟨w.heap.size,1,none⟩=some (.int .i64 X.dev)
 c2:w'.cell? ⟨w.heap.size,2,none⟩=some (.int .i64 X.native)
 c3:w'.cell? ⟨w.heap.size,3,none⟩=some (.int .i64 X.cost)
 c4:w'.cell? ⟨w.heap.size,4,none⟩=some (.int .i64 X.link)
 c5:w'.cell? ⟨w.heap.size,5,none⟩=some (.string (str X.name))
 c6:w'.cell? ⟨w.heap.size,6,none⟩=some (if d 9=true then .slice u1.A u1.n u1.c else .slice s.A s.n s.c)
 q:w.heap.size<w'.heap.size
 z:Cs w' (w.heap.size+1) [.int .i64 0,.int .i64 0,.int .i64 0,.int .i64 0,.int .i64 0,.string ⟨#[]⟩,.slice none 0 0]
 fz:∀o,w'.frozen? ⟨w.heap.size,o,none⟩=false∧w'.frozen? ⟨w.heap.size+1,o,none⟩=false
 b:Below w.heap.size w w'
 sz:W.heap.size≤w'.heap.size
inductive VW_port (X:PortV) (s:Sl3) (w W:World) (d:Nat→Bool):Act→World→Prop
 |mk (u1:Sl3) {x3 x4 x5 x6 x7 x8 x9 x10 x11:Value} {w':World}:VI_port X s w W u1 x3 x4 x5 x6 x7 x8 x9 x10 x11 d w'→VW_port X s w W d {tmps:=#[.agg #[.int .i64 X.row,.int .i64 X.dev,.int .i64 X.native,.int .i64 X.cost,.int .i64 X.link,.string (str X.name),.slice s.A s.n s.c],.pointer (some ⟨w.heap.size,0,none⟩),.pointer (some ⟨w.heap.size+1,0,none⟩),x3,x4,x5,x6,x7,x8,x9,x10,x11],defers:=[]} w'
theorem copy_port (X:PortV) (s:Sl3) (w:World) (l1:RSl (Rdr.int .i64) w (vAp w) s.A s.n s.c X.tagged) (z1:X.tagged.length≤100) (hs:X.name.length≤140737488351232):Calls Tryz.prog 98 #[.agg #[.int .i64 X.row,.int .i64 X.dev,.int .i64 X.native,.int .i64 X.cost,.int .i64 X.link,.string (str X.name),.slice s.A s.n s.c]] w (Got_port X w):=by
 have TC:=hid (fun w'=>tclone2 X.name w' hs);have CL1:=hid (fun (w':World) (hb:Below w.heap.size w w')=>cl_int s X.tagged w' (vAn l1 hb) (by omega));clear l1 z1 hs;unfold Got_port
 go_enter Tryz.func98,Tryz.ntmps98
 go_upto_region 1 with fail
 obtain ⟨W,hW⟩:∃W,(w.alloc (.cells #[.int .i64 X.row,.int .i64 X.dev,.int .i64 X.native,.int .i64 X.cost,.int .i64 X.link,.string (str X.name),.slice s.A s.n s.c] 68)).alloc (.cells #[.int .i64 0,.int .i64 0,.int .i64 0,.int .i64 0,.int .i64 0,.string ⟨#[]⟩,.slice none 0 0] 68)=W:=⟨_,rfl⟩;have FA:=hid (show ∀o,W.frozen? ⟨w.heap.size,o,none⟩=false∧W.frozen? ⟨w.heap.size+1,o,none⟩=false from fun o=>by rw [←hW];exact ⟨by simp [go_sem],by simp [go_sem]⟩)
 have CA:=hid (show Cs W w.heap.size [.int .i64 X.row,.int .i64 X.dev,.int .i64 X.native,.int .i64 X.cost,.int .i64 X.link,.string (str X.name),.slice s.A s.n s.c]∧Cs W (w.heap.size+1) [.int .i64 0,.int .i64 0,.int .i64 0,.int .i64 0,.int .i64 0,.string ⟨#[]⟩,.slice none 0 0]∧Below w.heap.size w W from by
  have h1:=Cs.new w [.int .i64 X.row,.int .i64 X.dev,.int .i64 X.native,.int .i64 X.cost,.int .i64 X.link,.string (str X.name),.slice s.A s.n s.c] 68;have h2:=Cs.new (w.alloc (.cells #[.int .i64 X.row,.int .i64 X.dev,.int .i64 X.native,.int .i64 X.cost,.int .i64 X.link,.string (str X.name),.slice s.A s.n s.c] 68)) [.int .i64 0,.int .i64 0,.int .i64 0,.int .i64 0,.int .i64 0,.string ⟨#[]⟩,.slice none 0 0] 68
  rw [show (w.alloc (.cells #[.int .i64 X.row,.int .i64 X.dev,.int .i64 X.native,.int .i64 X.cost,.int .i64 X.link,.string (str X.name),.slice s.A s.n s.c] 68)).heap.size=w.heap.size+1 by simp] at h2;rw [←hW]
  exact ⟨h1.below (vAc _ _),h2,vBc w _ _⟩)
 rw [hW];clear hW;have ql:w.heap.size<W.heap.size:=CA.out.1.2;have ql2:w.heap.size+1<W.heap.size:=CA.out.2.1.2;refine vCb (VW_port X s w W) (by kernel_rfl) (by kernel_rfl) ?_ ?_ ?_
 · refine VW_port.mk Sl3.nil ?_
   have c:=(CA.out.1.below (vAd (Below.refl _ _) 1:Below W.heap.size W W.drew)).1
   constructor
   case c6=>exact by simpa using c 6 _ rfl
   case q=>exact by simpa using ql
   case z=>exact CA.out.2.1.below (vAd (Below.refl _ _) 1)
   case fz=>exact FA.out
   case b=>exact vAd CA.out.2.2 1
   case sz=>exact Nat.le_refl _
   all_goals first|exact c _ _ rfl|exact fun h=>by cases h
 · rintro d a w' j o @⟨u1,x3,x4,x5,x6,x7,x8,x9,x10,x11,_,hv⟩ ho hd hdep
   obtain ⟨h3,h4,h5,h6,h7,h8,h9,h10,k9,l9,k5,r1,c0,c1,c2,c3,c4,c5,c6,q,z,fz,b,sz⟩:=hv
   rcases j with _|_|_|_|_|_|_|_|_|_|j
   · cases ho
     refine .inl ⟨rfl,?_⟩
     go_simp
     refine VW_port.mk u1 ?_
     constructor
     all_goals first|assumption|exact fun _=>rfl
   · cases ho
     have e0_:=hdep 0 (by kernel_rfl);obtain rfl:=h3 e0_;refine .inl ⟨rfl,?_⟩
     go_simp
     refine VW_port.mk u1 ?_
     constructor
     all_goals first|assumption|exact fun _=>rfl
   · cases ho
     have e1_:=hdep 1 (by kernel_rfl);obtain rfl:=h4 e1_;refine .inl ⟨rfl,?_⟩
     go_simp
     refine (TC.out _).mono ?_;rintro e w2 ⟨rfl,hb⟩;refine ⟨_,rfl,?_⟩;refine VW_port.mk u1 ?_
     constructor
     case r1=>exact fun h=>rk_b (r1 h) hb
     case q=>exact Nat.lt_of_lt_of_le q hb.size
     case z=>exact z.below hb
     case fz=>exact fz2 hb q z.2 fz
     case b=>exact b.trans (hb.mono b.size)
     case sz=>exact Nat.le_trans sz hb.size
     all_goals first|exact Eq.trans (hb.cell (by exact q)) ‹_›|assumption|exact fun _=>rfl
   · cases ho
     refine .inl ⟨rfl,?_⟩
     go_simp
     refine VW_port.mk u1 ?_
     constructor
     all_goals first|assumption|exact fun _=>rfl
   · cases ho
     have e3_:=hdep 3 (by kernel_rfl);obtain rfl:=h6 e3_
     have e9:d 9=false:=by
      cases hx:d 9 with
      |false=>rfl
      |true=>have:=k9 hx;rw [hd] at this;cases this
     rw [e9] at c6;simp only [Bool.false_eq_true,if_false] at c6;refine .inl ⟨rfl,?_⟩
     go_simp
     refine VW_port.mk u1 ?_
     constructor
     case k9=>exact fun _=>by simp
     case k5=>exact fun _=>by simp
     case c6=>exact by simpa [e9] using c6
     all_goals first|assumption|exact fun _=>rfl
   · cases ho
     have e4_:=hdep 4 (by kernel_rfl);obtain rfl:=h7 e4_
     have e9:d 9=false:=by
      cases hx:d 9 with
      |false=>rfl
      |true=>have:=l9 hx;rw [hd] at this;cases this
     refine .inl ⟨rfl,?_⟩
     go_simp
     refine (CL1.out _ b).mono ?_;rintro e w2 ⟨v,rfl,hr,hb⟩;refine ⟨_,rfl,?_⟩;refine VW_port.mk v ?_
     constructor
     case h8=>exact fun _=>rfl
     case l9=>exact fun _=>by simp
     case k5=>exact fun _=>by simpa using e4_
     case r1=>exact fun _=>hr.keep (fun _ _=>rfl) (fun b g=>g.low sz)
     case c6=>exact (hb.cell (p:=⟨_,6,none⟩) q).trans (by simpa [e9] using c6)
     case q=>exact Nat.lt_of_lt_of_le q hb.size
     case z=>exact z.below hb
     case fz=>exact fz2 hb q z.2 fz
     case b=>exact b.trans (hb.mono b.size)
     case sz=>exact Nat.le_trans sz hb.size
     all_goals first|exact Eq.trans (hb.cell (by exact q)) ‹_›|assumption|exact fun _=>rfl
   · cases ho
     refine .inl ⟨rfl,?_⟩
     go_simp
     refine VW_port.mk u1 ?_
     constructor
     all_goals first|assumption|exact fun _=>rfl
   · cases ho
     have e6_:=hdep 6 (by kernel_rfl);obtain rfl:=h9 e6_;have e2_:=hdep 2 (by kernel_rfl);obtain rfl:=h5 e2_;have g:=(fz 5).1;refine .inl ⟨rfl,?_⟩
     go_simp
     refine VW_port.mk u1 ?_
     constructor
     case r1=>exact fun h=>rk_s (r1 h) ql _ _
     case c5=>exact World.cell?_setCell_same _ _ _ c5
     case q=>exact by simpa using q
     case z=>exact z.far (by omega) _
     case fz=>exact fun o=>by simp only [World.frozen?_setCell];exact fz o
     case b=>exact b.setCell (p:=⟨w.heap.size,5,none⟩) (Nat.le_refl _) _
     case sz=>exact by simpa using sz
     all_goals first|exact (World.cell?_setCell_other _ _ _ _ (by simp)).trans ‹_›|assumption|exact fun _=>rfl
   · cases ho
     refine .inl ⟨rfl,?_⟩
     go_simp
     refine VW_port.mk u1 ?_
     constructor
     all_goals first|assumption|exact fun _=>rfl
   · cases ho
     have e8_:=hdep 8 (by kernel_rfl);obtain rfl:=h10 e8_;have e5_:=hdep 5 (by kernel_rfl);obtain rfl:=h8 e5_;have g:=(fz 6).1;refine .inl ⟨rfl,?_⟩
     go_simp
     refine VW_port.mk u1 ?_
     constructor
     case k9=>exact fun _=>by simpa using k5 e5_
     case l9=>exact fun _=>by simpa using e5_
     case r1=>exact fun h=>rk_s (r1 h) ql _ _
     case c6=>exact by simpa using World.cell?_setCell_same _ _ (.slice u1.A u1.n u1.c) c6
     case q=>exact by simpa using q
     case z=>exact z.far (by omega) _
     case fz=>exact fun o=>by simp only [World.frozen?_setCell];exact fz o
     case b=>exact b.setCell (p:=⟨w.heap.size,6,none⟩) (Nat.le_refl _) _
     case sz=>exact by simpa using sz
     all_goals first|exact (World.cell?_setCell_other _ _ _ _ (by simp)).trans ‹_›|assumption|exact fun _=>rfl
   · simp at ho
 · rintro d a w' @⟨u1,x3,x4,x5,x6,x7,x8,x9,x10,x11,_,hv⟩ hall
   obtain ⟨h3,h4,h5,h6,h7,h8,h9,h10,k9,l9,k5,r1,c0,c1,c2,c3,c4,c5,c6,q,z,fz,b,sz⟩:=hv;have e1:=hall 9 (by decide);rw [if_pos e1] at c6;have HR1:=hid (r1 (hall 5 (by decide)));have y0:=z.1 0 _ rfl;have g0:=(fz 0).2;have y1:=z.1 1 _ rfl;have g1:=(fz 1).2;have y2:=z.1 2 _ rfl;have g2:=(fz 2).2;have y3:=z.1 3 _ rfl;have g3:=(fz 3).2;have y4:=z.1 4 _ rfl;have g4:=(fz 4).2;have y5:=z.1 5 _ rfl;have g5:=(fz 5).2
   have y6:=z.1 6 _ rfl;have g6:=(fz 6).2;have q2:=z.2;have CF:=hid (((((((z.set 0 (.int .i64 X.row) (by simp)).set 1 (.int .i64 X.dev) (by simp)).set 2 (.int .i64 X.native) (by simp)).set 3 (.int .i64 X.cost) (by simp)).set 4 (.int .i64 X.link) (by simp)).set 5 (.string (str X.name)) (by simp)).set 6 (.slice u1.A u1.n u1.c) (by simp));have BF:=hid (((((((b.setCell (p:=⟨w.heap.size+1,0,none⟩) (by simp) (.int .i64 X.row)).setCell (p:=⟨w.heap.size+1,1,none⟩) (by simp) (.int .i64 X.dev)).setCell (p:=⟨w.heap.size+1,2,none⟩) (by simp) (.int .i64 X.native)).setCell (p:=⟨w.heap.size+1,3,none⟩) (by simp) (.int .i64 X.cost)).setCell (p:=⟨w.heap.size+1,4,none⟩) (by simp) (.int .i64 X.link)).setCell (p:=⟨w.heap.size+1,5,none⟩) (by simp) (.string (str X.name))).setCell (p:=⟨w.heap.size+1,6,none⟩) (by simp) (.slice u1.A u1.n u1.c))
   have hh:=hid (show ∀b,W.heap.size≤b→(((((((w'.setCell ⟨w.heap.size+1,0,none⟩ (.int .i64 X.row)).setCell ⟨w.heap.size+1,1,none⟩ (.int .i64 X.dev)).setCell ⟨w.heap.size+1,2,none⟩ (.int .i64 X.native)).setCell ⟨w.heap.size+1,3,none⟩ (.int .i64 X.cost)).setCell ⟨w.heap.size+1,4,none⟩ (.int .i64 X.link)).setCell ⟨w.heap.size+1,5,none⟩ (.string (str X.name))).setCell ⟨w.heap.size+1,6,none⟩ (.slice u1.A u1.n u1.c)).heap[b]?=w'.heap[b]? from fun b hb=>by rw [Below.heap_setCell _ _ _ _ (by intro e;simp at e;omega),Below.heap_setCell _ _ _ _ (by intro e;simp at e;omega),Below.heap_setCell _ _ _ _ (by intro e;simp at e;omega),Below.heap_setCell _ _ _ _ (by intro e;simp at e;omega),Below.heap_setCell _ _ _ _ (by intro e;simp at e;omega),Below.heap_setCell _ _ _ _ (by intro e;simp at e;omega),Below.heap_setCell _ _ _ _ (by intro e;simp at e;omega)])
   clear h3 h4 h5 h6 h7 h8 h9 h10 k9 l9 k5 r1 z fz b sz hall e1;go_wp2;refine bodyPost_ret (res_port _ _ X u1 (w.heap.size+1) rfl CF.out) rfl ?_;exact ⟨u1,rfl,HR1.out.keep (F':=NFB w.heap.size _) (fun b hb=>hh.out b hb.1) (fun b hb=>(hb.low (by omega)).same (hh.out b hb.1)),BF.out⟩
theorem res_vrf (tmps:Array Value) (W:World) (X:VrfV) (u1 u2:Sl3) (q:Nat) (h2:tmps[2]?.getD undef=.pointer (some ⟨q,0,none⟩)) (hb:Cs W q [.int .i64 X.row,.int .i64 X.dev,.string (str X.name),.slice u1.A u1.n u1.c,.slice u2.A u2.n u2.c]):
 (results Tryz.f106 tmps).run Tryz.prog W=.ok (.agg #[.int .i64 X.row,.int .i64 X.dev,.string (str X.name),.slice u1.A u1.n u1.c,.slice u2.A u2.n u2.c]) W:=by
 have t0:=hb.1 0 _ rfl;have t1:=hb.1 1 _ rfl;have t2:=hb.1 2 _ rfl;have t3:=hb.1 3 _ rfl;have t4:=hb.1 4 _ rfl;clear hb;simp [results,Tryz.results106,go_sem,h2,t0,t1,t2,t3,t4]
def Got_vrf (X:VrfV) (w:World) (e:Ending) (w':World):Prop:=∃u1:Sl3,∃u2:Sl3,e=.returned (.agg #[.int .i64 X.row,.int .i64 X.dev,.string (str X.name),.slice u1.A u1.n u1.c,.slice u2.A u2.n u2.c])∧RSl (Rdr.int .i64) w' (NFB w.heap.size w') u1.A u1.n u1.c X.imports∧RSl (Rdr.int .i64) w' (NFB w.heap.size w') u2.A u2.n u2.c X.exports∧Below w.heap.size w w'
structure VI_vrf (X:VrfV) (s t:Sl3) (w W:World) (u1 u2:Sl3) (x3 x4 x5 x6 x7 x8 x9 x10 x11 x12 x13 x14 x15:Value) (d:Nat→Bool) (w':World):Prop where
 h3:d 0=true→x3=.pointer (some ⟨w.heap.size,2,none⟩)
 h4:d 1=true→x4=.string (str X.name)
 h5:d 2=true→x5=.string (str X.name)
 h6:d 3=true→x6=.pointer (some ⟨w.heap.size,3,none⟩)
 h7:d 4=true→x7=.slice s.A s.n s.c
 h8:d 5=true→x8=.slice u1.A u1.n u1.c
 h9:d 6=true→x9=.pointer (some ⟨w.heap.size,4,none⟩)
 h10:d 7=true→x10=.slice t.A t.n t.c
 h11:d 8=true→x11=.slice u2.A u2.n u2.c
 h12:d 9=true→x12=.pointer (some ⟨w.heap.size,2,none⟩)
 h13:d 11=true→x13=.pointer (some ⟨w.heap.size,3,none⟩)
 h14:d 13=true→x14=.pointer (some ⟨w.heap.size,4,none⟩)
 k12:d 12=true→d 4=true
 l12:d 12=true→d 5=true
 k5:d 5=true→d 4=true
 k14:d 14=true→d 7=true
 l14:d 14=true→d 8=true
 k8:d 8=true→d 7=true
 r1:d 5=true→RSl (Rdr.int .i64) w' (NFB W.heap.size w') u1.A u1.n u1.c X.imports
 r2:d 8=true→RSl (Rdr.int .i64) w' (NFB W.heap.size w') u2.A u2.n u2.c X.exports
 c0:w'.cell? ⟨w.heap.size,0,none⟩=some (.int .i64 X.row)
 c1:w'.cell? ⟨w.heap.size,1,none⟩=some (.int .i64 X.dev)
 c2:w'.cell? ⟨w.heap.size,2,none⟩=some (.string (str X.name))
 c3:w'.cell? ⟨w.heap.size,3,none⟩=some (if d 12=true then .slice u1.A u1.n u1.c else .slice s.A s.n s.c)
 c4:w'.cell? ⟨w.heap.size,4,none⟩=some (if d 14=true then .slice u2.A u2.n u2.c else .slice t.A t.n t.c)
 q:w.heap.size<w'.heap.size
 z:Cs w' (w.heap.size+1) [.int .i64 0,.int .i64 0,.string ⟨#[]⟩,.slice none 0 0,.slice none 0 0]
 fz:∀o,w'.frozen? ⟨w.heap.size,o,none⟩=false∧w'.frozen? ⟨w.heap.size+1,o,none⟩=false
 b:Below w.heap.size w w'
 sz:W.heap.size≤w'.heap.size
inductive VW_vrf (X:VrfV) (s t:Sl3) (w W:World) (d:Nat→Bool):Act→World→Prop
 |mk (u1 u2:Sl3) {x3 x4 x5 x6 x7 x8 x9 x10 x11 x12 x13 x14 x15:Value} {w':World}:VI_vrf X s t w W u1 u2 x3 x4 x5 x6 x7 x8 x9 x10 x11 x12 x13 x14 x15 d w'→VW_vrf X s t w W d {tmps:=#[.agg #[.int .i64 X.row,.int .i64 X.dev,.string (str X.name),.slice s.A s.n s.c,.slice t.A t.n t.c],.pointer (some ⟨w.heap.size,0,none⟩),.pointer (some ⟨w.heap.size+1,0,none⟩),x3,x4,x5,x6,x7,x8,x9,x10,x11,x12,x13,x14,x15],defers:=[]} w'
theorem copy_vrf (X:VrfV) (s t:Sl3) (w:World) (l1:RSl (Rdr.int .i64) w (vAp w) s.A s.n s.c X.imports) (z1:X.imports.length≤100) (l2:RSl (Rdr.int .i64) w (vAp w) t.A t.n t.c X.exports) (z2:X.exports.length≤100) (hs:X.name.length≤140737488351232):Calls Tryz.prog 106 #[.agg #[.int .i64 X.row,.int .i64 X.dev,.string (str X.name),.slice s.A s.n s.c,.slice t.A t.n t.c]] w (Got_vrf X w):=by
 have TC:=hid (fun w'=>tclone2 X.name w' hs);have CL1:=hid (fun (w':World) (hb:Below w.heap.size w w')=>cl_int s X.imports w' (vAn l1 hb) (by omega));have CL2:=hid (fun (w':World) (hb:Below w.heap.size w w')=>cl_int t X.exports w' (vAn l2 hb) (by omega));clear l1 z1 l2 z2 hs;unfold Got_vrf
 go_enter Tryz.func106,Tryz.ntmps106
 go_upto_region 1 with fail
 obtain ⟨W,hW⟩:∃W,(w.alloc (.cells #[.int .i64 X.row,.int .i64 X.dev,.string (str X.name),.slice s.A s.n s.c,.slice t.A t.n t.c] 74)).alloc (.cells #[.int .i64 0,.int .i64 0,.string ⟨#[]⟩,.slice none 0 0,.slice none 0 0] 74)=W:=⟨_,rfl⟩;have FA:=hid (show ∀o,W.frozen? ⟨w.heap.size,o,none⟩=false∧W.frozen? ⟨w.heap.size+1,o,none⟩=false from fun o=>by rw [←hW];exact ⟨by simp [go_sem],by simp [go_sem]⟩)
 have CA:=hid (show Cs W w.heap.size [.int .i64 X.row,.int .i64 X.dev,.string (str X.name),.slice s.A s.n s.c,.slice t.A t.n t.c]∧Cs W (w.heap.size+1) [.int .i64 0,.int .i64 0,.string ⟨#[]⟩,.slice none 0 0,.slice none 0 0]∧Below w.heap.size w W from by
  have h1:=Cs.new w [.int .i64 X.row,.int .i64 X.dev,.string (str X.name),.slice s.A s.n s.c,.slice t.A t.n t.c] 74;have h2:=Cs.new (w.alloc (.cells #[.int .i64 X.row,.int .i64 X.dev,.string (str X.name),.slice s.A s.n s.c,.slice t.A t.n t.c] 74)) [.int .i64 0,.int .i64 0,.string ⟨#[]⟩,.slice none 0 0,.slice none 0 0] 74;rw [show (w.alloc (.cells #[.int .i64 X.row,.int .i64 X.dev,.string (str X.name),.slice s.A s.n s.c,.slice t.A t.n t.c] 74)).heap.size=w.heap.size+1 by simp] at h2
  rw [←hW]
  exact ⟨h1.below (vAc _ _),h2,vBc w _ _⟩)
 rw [hW];clear hW;have ql:w.heap.size<W.heap.size:=CA.out.1.2;have ql2:w.heap.size+1<W.heap.size:=CA.out.2.1.2;refine vCb (VW_vrf X s t w W) (by kernel_rfl) (by kernel_rfl) ?_ ?_ ?_
 · refine VW_vrf.mk Sl3.nil Sl3.nil ?_
   have c:=(CA.out.1.below (vAd (Below.refl _ _) 1:Below W.heap.size W W.drew)).1
   constructor
   case c3=>exact by simpa using c 3 _ rfl
   case c4=>exact by simpa using c 4 _ rfl
   case q=>exact by simpa using ql
   case z=>exact CA.out.2.1.below (vAd (Below.refl _ _) 1)
   case fz=>exact FA.out
   case b=>exact vAd CA.out.2.2 1
   case sz=>exact Nat.le_refl _
   all_goals first|exact c _ _ rfl|exact fun h=>by cases h
 · rintro d a w' j o @⟨u1,u2,x3,x4,x5,x6,x7,x8,x9,x10,x11,x12,x13,x14,x15,_,hv⟩ ho hd hdep
   obtain ⟨h3,h4,h5,h6,h7,h8,h9,h10,h11,h12,h13,h14,k12,l12,k5,k14,l14,k8,r1,r2,c0,c1,c2,c3,c4,q,z,fz,b,sz⟩:=hv
   rcases j with _|_|_|_|_|_|_|_|_|_|_|_|_|_|_|j
   · cases ho
     refine .inl ⟨rfl,?_⟩
     go_simp
     refine VW_vrf.mk u1 u2 ?_
     constructor
     all_goals first|assumption|exact fun _=>rfl
   · cases ho
     have e0_:=hdep 0 (by kernel_rfl);obtain rfl:=h3 e0_;refine .inl ⟨rfl,?_⟩
     go_simp
     refine VW_vrf.mk u1 u2 ?_
     constructor
     all_goals first|assumption|exact fun _=>rfl
   · cases ho
     have e1_:=hdep 1 (by kernel_rfl);obtain rfl:=h4 e1_;refine .inl ⟨rfl,?_⟩
     go_simp
     refine (TC.out _).mono ?_;rintro e w2 ⟨rfl,hb⟩;refine ⟨_,rfl,?_⟩;refine VW_vrf.mk u1 u2 ?_
     constructor
     case r1=>exact fun h=>rk_b (r1 h) hb
     case r2=>exact fun h=>rk_b (r2 h) hb
     case q=>exact Nat.lt_of_lt_of_le q hb.size
     case z=>exact z.below hb
     case fz=>exact fz2 hb q z.2 fz
     case b=>exact b.trans (hb.mono b.size)
     case sz=>exact Nat.le_trans sz hb.size
     all_goals first|exact Eq.trans (hb.cell (by exact q)) ‹_›|assumption|exact fun _=>rfl
   · cases ho
     refine .inl ⟨rfl,?_⟩
     go_simp
     refine VW_vrf.mk u1 u2 ?_
     constructor
     all_goals first|assumption|exact fun _=>rfl
   · cases ho
     have e3_:=hdep 3 (by kernel_rfl);obtain rfl:=h6 e3_
     have e12:d 12=false:=by
      cases hx:d 12 with
      |false=>rfl
      |true=>have:=k12 hx;rw [hd] at this;cases this
     rw [e12] at c3;simp only [Bool.false_eq_true,if_false] at c3;refine .inl ⟨rfl,?_⟩
     go_simp
     refine VW_vrf.mk u1 u2 ?_
     constructor
     case k12=>exact fun _=>by simp
     case k5=>exact fun _=>by simp
     case c3=>exact by simpa [e12] using c3
     all_goals first|assumption|exact fun _=>rfl
   · cases ho
     have e4_:=hdep 4 (by kernel_rfl);obtain rfl:=h7 e4_
     have e12:d 12=false:=by
      cases hx:d 12 with
      |false=>rfl
      |true=>have:=l12 hx;rw [hd] at this;cases this
     refine .inl ⟨rfl,?_⟩
     go_simp
     refine (CL1.out _ b).mono ?_;rintro e w2 ⟨v,rfl,hr,hb⟩;refine ⟨_,rfl,?_⟩;refine VW_vrf.mk v u2 ?_
     constructor
     case h8=>exact fun _=>rfl
     case l12=>exact fun _=>by simp
     case k5=>exact fun _=>by simpa using e4_
     case r1=>exact fun _=>hr.keep (fun _ _=>rfl) (fun b g=>g.low sz)
     case r2=>exact fun h=>rk_b (r2 h) hb
     case c3=>exact (hb.cell (p:=⟨_,3,none⟩) q).trans (by simpa [e12] using c3)
     case q=>exact Nat.lt_of_lt_of_le q hb.size
     case z=>exact z.below hb
     case fz=>exact fz2 hb q z.2 fz
     case b=>exact b.trans (hb.mono b.size)
     case sz=>exact Nat.le_trans sz hb.size
     all_goals first|exact Eq.trans (hb.cell (by exact q)) ‹_›|assumption|exact fun _=>rfl
   · cases ho
     refine .inl ⟨rfl,?_⟩
     go_simp
     refine VW_vrf.mk u1 u2 ?_
     constructor
     all_goals first|assumption|exact fun _=>rfl
   · cases ho
     have e6_:=hdep 6 (by kernel_rfl);obtain rfl:=h9 e6_
     have e14:d 14=false:=by
      cases hx:d 14 with
      |false=>rfl
      |true=>have:=k14 hx;rw [hd] at this;cases this
     rw [e14] at c4;simp only [Bool.false_eq_true,if_false] at c4;refine .inl ⟨rfl,?_⟩
     go_simp
     refine VW_vrf.mk u1 u2 ?_
     constructor
     case k14=>exact fun _=>by simp
     case k8=>exact fun _=>by simp
     case c4=>exact by simpa [e14] using c4
     all_goals first|assumption|exact fun _=>rfl
   · cases ho
     have e7_:=hdep 7 (by kernel_rfl);obtain rfl:=h10 e7_
     have e14:d 14=false:=by
      cases hx:d 14 with
      |false=>rfl
      |true=>have:=l14 hx;rw [hd] at this;cases this
     refine .inl ⟨rfl,?_⟩
     go_simp
     refine (CL2.out _ b).mono ?_;rintro e w2 ⟨v,rfl,hr,hb⟩;refine ⟨_,rfl,?_⟩;refine VW_vrf.mk u1 v ?_
     constructor
     case h11=>exact fun _=>rfl
     case l14=>exact fun _=>by simp
     case k8=>exact fun _=>by simpa using e7_
     case r1=>exact fun h=>rk_b (r1 h) hb
     case r2=>exact fun _=>hr.keep (fun _ _=>rfl) (fun b g=>g.low sz)
     case c4=>exact (hb.cell (p:=⟨_,4,none⟩) q).trans (by simpa [e14] using c4)
     case q=>exact Nat.lt_of_lt_of_le q hb.size
     case z=>exact z.below hb
     case fz=>exact fz2 hb q z.2 fz
     case b=>exact b.trans (hb.mono b.size)
     case sz=>exact Nat.le_trans sz hb.size
     all_goals first|exact Eq.trans (hb.cell (by exact q)) ‹_›|assumption|exact fun _=>rfl
   · cases ho
     refine .inl ⟨rfl,?_⟩
     go_simp
     refine VW_vrf.mk u1 u2 ?_
     constructor
     all_goals first|assumption|exact fun _=>rfl
   · cases ho
     have e9_:=hdep 9 (by kernel_rfl);obtain rfl:=h12 e9_;have e2_:=hdep 2 (by kernel_rfl);obtain rfl:=h5 e2_;have g:=(fz 2).1;refine .inl ⟨rfl,?_⟩
     go_simp
     refine VW_vrf.mk u1 u2 ?_
     constructor
     case r1=>exact fun h=>rk_s (r1 h) ql _ _
     case r2=>exact fun h=>rk_s (r2 h) ql _ _
     case c2=>exact World.cell?_setCell_same _ _ _ c2
     case q=>exact by simpa using q
     case z=>exact z.far (by omega) _
     case fz=>exact fun o=>by simp only [World.frozen?_setCell];exact fz o
     case b=>exact b.setCell (p:=⟨w.heap.size,2,none⟩) (Nat.le_refl _) _
     case sz=>exact by simpa using sz
     all_goals first|exact (World.cell?_setCell_other _ _ _ _ (by simp)).trans ‹_›|assumption|exact fun _=>rfl
   · cases ho
     refine .inl ⟨rfl,?_⟩
     go_simp
     refine VW_vrf.mk u1 u2 ?_
     constructor
     all_goals first|assumption|exact fun _=>rfl
   · cases ho
     have e11_:=hdep 11 (by kernel_rfl);obtain rfl:=h13 e11_;have e5_:=hdep 5 (by kernel_rfl);obtain rfl:=h8 e5_;have g:=(fz 3).1;refine .inl ⟨rfl,?_⟩
     go_simp
     refine VW_vrf.mk u1 u2 ?_
     constructor
     case k12=>exact fun _=>by simpa using k5 e5_
     case l12=>exact fun _=>by simpa using e5_
     case r1=>exact fun h=>rk_s (r1 h) ql _ _
     case r2=>exact fun h=>rk_s (r2 h) ql _ _
     case c3=>exact by simpa using World.cell?_setCell_same _ _ (.slice u1.A u1.n u1.c) c3
     case q=>exact by simpa using q
     case z=>exact z.far (by omega) _
     case fz=>exact fun o=>by simp only [World.frozen?_setCell];exact fz o
     case b=>exact b.setCell (p:=⟨w.heap.size,3,none⟩) (Nat.le_refl _) _
     case sz=>exact by simpa using sz
     all_goals first|exact (World.cell?_setCell_other _ _ _ _ (by simp)).trans ‹_›|assumption|exact fun _=>rfl
   · cases ho
     refine .inl ⟨rfl,?_⟩
     go_simp
     refine VW_vrf.mk u1 u2 ?_
     constructor
     all_goals first|assumption|exact fun _=>rfl
   · cases ho
     have e13_:=hdep 13 (by kernel_rfl);obtain rfl:=h14 e13_;have e8_:=hdep 8 (by kernel_rfl);obtain rfl:=h11 e8_;have g:=(fz 4).1;refine .inl ⟨rfl,?_⟩
     go_simp
     refine VW_vrf.mk u1 u2 ?_
     constructor
     case k14=>exact fun _=>by simpa using k8 e8_
     case l14=>exact fun _=>by simpa using e8_
     case r1=>exact fun h=>rk_s (r1 h) ql _ _
     case r2=>exact fun h=>rk_s (r2 h) ql _ _
     case c4=>exact by simpa using World.cell?_setCell_same _ _ (.slice u2.A u2.n u2.c) c4
     case q=>exact by simpa using q
     case z=>exact z.far (by omega) _
     case fz=>exact fun o=>by simp only [World.frozen?_setCell];exact fz o
     case b=>exact b.setCell (p:=⟨w.heap.size,4,none⟩) (Nat.le_refl _) _
     case sz=>exact by simpa using sz
     all_goals first|exact (World.cell?_setCell_other _ _ _ _ (by simp)).trans ‹_›|assumption|exact fun _=>rfl
   · simp at ho
 · rintro d a w' @⟨u1,u2,x3,x4,x5,x6,x7,x8,x9,x10,x11,x12,x13,x14,x15,_,hv⟩ hall
   obtain ⟨h3,h4,h5,h6,h7,h8,h9,h10,h11,h12,h13,h14,k12,l12,k5,k14,l14,k8,r1,r2,c0,c1,c2,c3,c4,q,z,fz,b,sz⟩:=hv;have e1:=hall 12 (by decide);rw [if_pos e1] at c3;have HR1:=hid (r1 (hall 5 (by decide)));have e2:=hall 14 (by decide);rw [if_pos e2] at c4;have HR2:=hid (r2 (hall 8 (by decide)));have y0:=z.1 0 _ rfl;have g0:=(fz 0).2;have y1:=z.1 1 _ rfl;have g1:=(fz 1).2;have y2:=z.1 2 _ rfl;have g2:=(fz 2).2
   have y3:=z.1 3 _ rfl;have g3:=(fz 3).2;have y4:=z.1 4 _ rfl;have g4:=(fz 4).2;have q2:=z.2;have CF:=hid (((((z.set 0 (.int .i64 X.row) (by simp)).set 1 (.int .i64 X.dev) (by simp)).set 2 (.string (str X.name)) (by simp)).set 3 (.slice u1.A u1.n u1.c) (by simp)).set 4 (.slice u2.A u2.n u2.c) (by simp));have BF:=hid (((((b.setCell (p:=⟨w.heap.size+1,0,none⟩) (by simp) (.int .i64 X.row)).setCell (p:=⟨w.heap.size+1,1,none⟩) (by simp) (.int .i64 X.dev)).setCell (p:=⟨w.heap.size+1,2,none⟩) (by simp) (.string (str X.name))).setCell (p:=⟨w.heap.size+1,3,none⟩) (by simp) (.slice u1.A u1.n u1.c)).setCell (p:=⟨w.heap.size+1,4,none⟩) (by simp) (.slice u2.A u2.n u2.c))
   have hh:=hid (show ∀b,W.heap.size≤b→(((((w'.setCell ⟨w.heap.size+1,0,none⟩ (.int .i64 X.row)).setCell ⟨w.heap.size+1,1,none⟩ (.int .i64 X.dev)).setCell ⟨w.heap.size+1,2,none⟩ (.string (str X.name))).setCell ⟨w.heap.size+1,3,none⟩ (.slice u1.A u1.n u1.c)).setCell ⟨w.heap.size+1,4,none⟩ (.slice u2.A u2.n u2.c)).heap[b]?=w'.heap[b]? from fun b hb=>by rw [Below.heap_setCell _ _ _ _ (by intro e;simp at e;omega),Below.heap_setCell _ _ _ _ (by intro e;simp at e;omega),Below.heap_setCell _ _ _ _ (by intro e;simp at e;omega),Below.heap_setCell _ _ _ _ (by intro e;simp at e;omega),Below.heap_setCell _ _ _ _ (by intro e;simp at e;omega)])
   clear h3 h4 h5 h6 h7 h8 h9 h10 h11 h12 h13 h14 k12 l12 k5 k14 l14 k8 r1 r2 z fz b sz hall e1 e2;go_wp2;refine bodyPost_ret (res_vrf _ _ X u1 u2 (w.heap.size+1) rfl CF.out) rfl ?_;exact ⟨u1,u2,rfl,HR1.out.keep (F':=NFB w.heap.size _) (fun b hb=>hh.out b hb.1) (fun b hb=>(hb.low (by omega)).same (hh.out b hb.1)),HR2.out.keep (F':=NFB w.heap.size _) (fun b hb=>hh.out b hb.1) (fun b hb=>(hb.low (by omega)).same (hh.out b hb.1)),BF.out⟩
end Go.Proofs.YtgmflecelnefcaaGreat
