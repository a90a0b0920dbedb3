import Derived.Test.YtgmflecelnefcaaGreatOp19
import Derived.Test.YtgmflecelnefcaaGreatOp20
import Derived.Test.YtgmflecelnefcaaGreatOp11
import Derived.Test.YtgmflecelnefcaaGreatOp18
import Derived.WalkMore
import Derived.RegionTactic
import Derived.Deep.RegionWith
import Derived.Laws.EntriesVeiled
set_option maxRecDepth 100000
set_option maxHeartbeats 40000000
namespace Go.Proofs.YtgmflecelnefcaaGreat
open Go.Lib (hid)
open Go.RowKit
def PSl (w:World) (p:Nat) (A:Option Addr) (n c:Nat) (ps:List (Nat×Nat)):Prop:=
 ps.length=n∧n≤c∧c≤maxLen∧(0<n→∃b,A=some ⟨b,0,none⟩∧b<w.heap.size∧∀j,j<n→w.cell? ⟨b,j * 2,none⟩=some (.int .i64 ((ps.getD j (0,0)).1:Int))∧w.cell? ⟨b,j * 2+1,none⟩=some (fval (ps.getD j (0,0)).2 p))
def GotP (p:Nat) (ps:List (Nat×Nat)) (w:World) (e:Ending) (w':World):Prop:=
 ∃A n c,e=.returned (.slice A n c)∧PSl w' p A n c ps∧Below w.heap.size w w'∧∀ad,A=some ad→w.heap.size≤ad.block
def vDi (p:Nat):List (Nat×Nat)→List Value
 | []=>[]
 |x :: r=>.int .i64 (x.1:Int) :: fval x.2 p :: vDi p r
theorem vEn (p:Nat) (ps:List (Nat×Nat)):(vDi p ps).length=ps.length * 2:=by
 induction ps with
 |nil=>rfl
 |cons x r ih=>simp only [vDi,List.length_cons,ih];omega
theorem pcells_at (p:Nat) (ps:List (Nat×Nat)) (j:Nat) (h:j<ps.length):(vDi p ps)[j * 2]?=some (.int .i64 ((ps.getD j (0,0)).1:Int))∧(vDi p ps)[j * 2+1]?=some (fval (ps.getD j (0,0)).2 p):=by
 induction ps generalizing j with
 |nil=>exact absurd h (by simp)
 |cons x r ih=>
  cases j with
  |zero=>exact ⟨rfl,rfl⟩
  |succ j=>
   have:=ih j (by simpa using h)
   rw [show (j+1) * 2=j * 2+1+1 by omega];exact this
theorem PSl.of_own {w:World} {B p g n c:Nat} {ps:List (Nat×Nat)} (hn:ps.length=n) (h:w.ownsRow B 161 2 (.slice (some ⟨g,0,none⟩) n c) n (vDi p ps)):PSl w p (some ⟨g,0,none⟩) n c ps:=by
 have hnc:n≤c∧c≤maxLen∧g<w.heap.size:=by
  rcases h.2 with ⟨hv,_⟩|⟨g',cap,cur,hv,hB,hh,h1,h2,_⟩
  · cases hv
  · cases hv
    refine ⟨h1,h2,?_⟩
    rcases Nat.lt_or_ge g w.heap.size with h'|h'
    · exact h'
    · rw [Array.getElem?_eq_none h'] at hh;cases hh
 refine ⟨hn,hnc.1,hnc.2.1,fun _=>⟨g,rfl,hnc.2.2,fun j hj=>?_⟩⟩
 have:=pcells_at p ps j (by omega)
 rw [h.cellAt (j * 2) (by omega),h.cellAt (j * 2+1) (by omega)];exact this
theorem GotP.lit {w:World} {p n:Nat} {ps:List (Nat×Nat)} (hn:ps.length=n) (hm:n≤10):GotP p ps w (.returned (.slice (some ⟨w.heap.size,0,none⟩) n n)) (w.alloc (.cells (vDi p ps).toArray 161)):=by
 have O:=World.ownsRow_lit (base:=w.heap.size) (e:=161) (size:=2) w (vDi p ps).toArray n (Nat.le_refl _) (by unfold maxLen;omega) (by rw [List.size_toArray,vEn,hn]);exact ⟨_,n,n,rfl,PSl.of_own hn O,(Below.refl _ _).alloc (Nat.le_refl _) _,fun ad h=>by cases h;exact Nat.le_refl _⟩
theorem new2 (w:World) (o1 o2:Obj):((w.alloc o1).alloc o2).heap[w.heap.size+1]?=some o2:=by
 have:=heap_alloc_new (w.alloc o1) o2
 rwa [show (w.alloc o1).heap.size=w.heap.size+1 by simp] at this
theorem own_at2 {w:World} {B:Nat} {e:TypeId} {A:Option Addr} {n m c sz:Nat} {xs:List Value} (h:w.ownsRow B e sz (.slice A m c) n xs) (ad:Addr) (hA:A=some ad):B≤ad.block:=by
 rcases h.2 with ⟨hv,_⟩|⟨g,cap,cur,hv,hB,_⟩
 · injection hv with h1;rw [hA] at h1;cases h1
 · injection hv with h1;rw [hA] at h1;cases h1;exact hB
theorem Tryz.info161:(Tryz.prog.info? 161).map (fun i=>(i.zero,i.size,i.bytes))=some (some (.agg #[.int .i64 0,.nilFunc]),2,16):=by kernel_rfl
theorem parts_1 (p:Nat) (tg:Bool) (w:World) (h:w.cell? ⟨p,1,none⟩=some (.int .i64 1)):Calls Tryz.prog 137 #[.pointer (some ⟨p,0,none⟩),.bool tg] w (GotP p (pts 1 tg) w):=by
 go_enter Tryz.func137,Tryz.ntmps137
 go_wp2;go_ret;exact GotP.lit (ps:=[(0,0),(2,6),(7,9)]) rfl (by decide)
theorem parts_3 (p:Nat) (tg:Bool) (w:World) (h:w.cell? ⟨p,1,none⟩=some (.int .i64 3)):Calls Tryz.prog 137 #[.pointer (some ⟨p,0,none⟩),.bool tg] w (GotP p (pts 3 tg) w):=by
 go_enter Tryz.func137,Tryz.ntmps137
 go_wp2;go_ret;exact GotP.lit (ps:=[(0,0),(0,1),(0,2),(0,3)]) rfl (by decide)
theorem parts_4 (p:Nat) (tg:Bool) (w:World) (h:w.cell? ⟨p,1,none⟩=some (.int .i64 4)):Calls Tryz.prog 137 #[.pointer (some ⟨p,0,none⟩),.bool tg] w (GotP p (pts 4 tg) w):=by
 go_enter Tryz.func137,Tryz.ntmps137
 go_wp2;go_ret;exact GotP.lit (ps:=[(0,0),(4,7),(7,9),(0,1)]) rfl (by decide)
theorem parts_5 (p:Nat) (tg:Bool) (w:World) (h:w.cell? ⟨p,1,none⟩=some (.int .i64 5)):Calls Tryz.prog 137 #[.pointer (some ⟨p,0,none⟩),.bool tg] w (GotP p (pts 5 tg) w):=by
 go_enter Tryz.func137,Tryz.ntmps137
 go_wp2;go_ret;exact GotP.lit (ps:=[(0,0),(8,10)]) rfl (by decide)
theorem parts_6 (p:Nat) (tg:Bool) (w:World) (h:w.cell? ⟨p,1,none⟩=some (.int .i64 6)):Calls Tryz.prog 137 #[.pointer (some ⟨p,0,none⟩),.bool tg] w (GotP p (pts 6 tg) w):=by
 go_enter Tryz.func137,Tryz.ntmps137
 go_wp2;go_ret;exact GotP.lit (ps:=[(0,0),(4,7),(6,6)]) rfl (by decide)
theorem parts_7 (p:Nat) (tg:Bool) (w:World) (h:w.cell? ⟨p,1,none⟩=some (.int .i64 7)):Calls Tryz.prog 137 #[.pointer (some ⟨p,0,none⟩),.bool tg] w (GotP p (pts 7 tg) w):=by
 go_enter Tryz.func137,Tryz.ntmps137
 go_wp2;go_ret;exact GotP.lit (ps:=[(0,0),(6,6),(12,15)]) rfl (by decide)
theorem parts_8 (p:Nat) (tg:Bool) (w:World) (h:w.cell? ⟨p,1,none⟩=some (.int .i64 8)):Calls Tryz.prog 137 #[.pointer (some ⟨p,0,none⟩),.bool tg] w (GotP p (pts 8 tg) w):=by
 go_enter Tryz.func137,Tryz.ntmps137
 go_wp2;go_ret;exact GotP.lit (ps:=[(0,0),(0,4),(11,13),(11,14)]) rfl (by decide)
theorem parts_9 (p:Nat) (tg:Bool) (w:World) (h:w.cell? ⟨p,1,none⟩=some (.int .i64 9)):Calls Tryz.prog 137 #[.pointer (some ⟨p,0,none⟩),.bool tg] w (GotP p (pts 9 tg) w):=by
 go_enter Tryz.func137,Tryz.ntmps137
 go_wp2;go_ret;exact GotP.lit (ps:=[(0,0),(4,7),(0,4),(9,11)]) rfl (by decide)
theorem parts_2t (p:Nat) (w:World) (h:w.cell? ⟨p,1,none⟩=some (.int .i64 2)):Calls Tryz.prog 137 #[.pointer (some ⟨p,0,none⟩),.bool true] w (GotP p (pts 2 true) w):=by
 obtain ⟨i0,hi,hz0,hz1,hz2⟩:=info_parts Tryz.info161;have Hi:=hid hi;have Hz0:=hid hz0;have Hz1:=hid hz1;have Hz2:=hid hz2;clear hi hz0 hz1 hz2;have O:=World.ownsRow_lit (base:=w.heap.size) (e:=161) (size:=2) w (vDi p [(0,0),(0,1),(3,8),(1,5)]).toArray 4 (Nat.le_refl _) (by unfold maxLen;omega) (by rw [List.size_toArray,vEn];rfl)
 go_enter Tryz.func137,Tryz.ntmps137
 go_wp2_with (at_builtin;refine wpList_append_lies _ rfl (.tmp 39) (.tmp 46) 156 rfl w.heap.size 161 i0 (.agg #[.int .i64 0,.nilFunc]) 2 16 Tryz.underlying156 Hi.out Hz0.out Hz1.out Hz2.out rfl (by decide) _ 4 (vDi p [(0,0),(0,1),(3,8),(1,5)]) (by rfl) (O.alloc _) ⟨w.heap.size+1,0,none⟩ 2 2 (vDi p [(5,7),(10,12)]) (by rfl) (by rw [vEn];rfl) (World.news_of_block (new2 w _ _)) (by simp [vDi,fval,Value.oneCell']) (by decide) (by unfold maxLen;decide) (by decide) (by simp;omega) _ rfl ?_;intro g cap w3 hown3 hgrow3 _ _)
 have B3:=vDc (((Below.refl w.heap.size w).alloc (Nat.le_refl _) _).alloc (by simp) _) (O.alloc _) hgrow3;go_ret;exact ⟨_,6,cap,rfl,PSl.of_own (ps:=[(0,0),(0,1),(3,8),(1,5),(5,7),(10,12)]) rfl hown3,B3,own_at2 hown3⟩
theorem parts_2f (p:Nat) (w:World) (h:w.cell? ⟨p,1,none⟩=some (.int .i64 2)):Calls Tryz.prog 137 #[.pointer (some ⟨p,0,none⟩),.bool false] w (GotP p (pts 2 false) w):=by
 obtain ⟨i0,hi,hz0,hz1,hz2⟩:=info_parts Tryz.info161;have Hi:=hid hi;have Hz0:=hid hz0;have Hz1:=hid hz1;have Hz2:=hid hz2;clear hi hz0 hz1 hz2;have O:=World.ownsRow_lit (base:=w.heap.size) (e:=161) (size:=2) w (vDi p [(0,0),(0,1),(3,8),(1,5)]).toArray 4 (Nat.le_refl _) (by unfold maxLen;omega) (by rw [List.size_toArray,vEn];rfl)
 go_enter Tryz.func137,Tryz.ntmps137
 go_wp2_with (at_builtin;refine wpList_append_lies _ rfl (.tmp 48) (.tmp 52) 156 rfl w.heap.size 161 i0 (.agg #[.int .i64 0,.nilFunc]) 2 16 Tryz.underlying156 Hi.out Hz0.out Hz1.out Hz2.out rfl (by decide) _ 4 (vDi p [(0,0),(0,1),(3,8),(1,5)]) (by rfl) (O.alloc _) ⟨w.heap.size+1,0,none⟩ 1 1 (vDi p [(4,7)]) (by rfl) (by rw [vEn];rfl) (World.news_of_block (new2 w _ _)) (by simp [vDi,fval,Value.oneCell']) (by decide) (by unfold maxLen;decide) (by decide) (by simp;omega) _ rfl ?_;intro g cap w3 hown3 hgrow3 _ _)
 have B3:=vDc (((Below.refl w.heap.size w).alloc (Nat.le_refl _) _).alloc (by simp) _) (O.alloc _) hgrow3;go_ret;exact ⟨_,5,cap,rfl,PSl.of_own (ps:=[(0,0),(0,1),(3,8),(1,5),(4,7)]) rfl hown3,B3,own_at2 hown3⟩
theorem parts_no (k:Int) (hk:k<1∨9<k) (p:Nat) (tg:Bool) (w:World) (h:w.cell? ⟨p,1,none⟩=some (.int .i64 k)):Calls Tryz.prog 137 #[.pointer (some ⟨p,0,none⟩),.bool tg] w (GotP p (pts k tg) w):=by
 have E:=hid (pts_no k tg hk)
 have d1:(k == 1)=false:=by rw [beq_eq_false_iff_ne];omega
 have d2:(k == 2)=false:=by rw [beq_eq_false_iff_ne];omega
 have d3:(k == 3)=false:=by rw [beq_eq_false_iff_ne];omega
 have d4:(k == 4)=false:=by rw [beq_eq_false_iff_ne];omega
 have d5:(k == 5)=false:=by rw [beq_eq_false_iff_ne];omega
 have d6:(k == 6)=false:=by rw [beq_eq_false_iff_ne];omega
 have d7:(k == 7)=false:=by rw [beq_eq_false_iff_ne];omega
 have d8:(k == 8)=false:=by rw [beq_eq_false_iff_ne];omega
 have d9:(k == 9)=false:=by rw [beq_eq_false_iff_ne];omega
 clear hk
 go_enter Tryz.func137,Tryz.ntmps137
 go_wp2;go_ret;rw [E.out];exact ⟨none,0,0,rfl,⟨rfl,Nat.le_refl _,Nat.zero_le _,fun h=>absurd h (by omega)⟩,Below.refl _ _,fun ad h=>by cases h⟩
theorem parts_any (k:Int) (p:Nat) (tg:Bool) (w:World) (h:w.cell? ⟨p,1,none⟩=some (.int .i64 k)):Calls Tryz.prog 137 #[.pointer (some ⟨p,0,none⟩),.bool tg] w (GotP p (pts k tg) w):=by
 by_cases k1:k=1
 · subst k1;exact parts_1 p tg w h
 by_cases k3:k=3
 · subst k3;exact parts_3 p tg w h
 by_cases k4:k=4
 · subst k4;exact parts_4 p tg w h
 by_cases k5:k=5
 · subst k5;exact parts_5 p tg w h
 by_cases k6:k=6
 · subst k6;exact parts_6 p tg w h
 by_cases k7:k=7
 · subst k7;exact parts_7 p tg w h
 by_cases k8:k=8
 · subst k8;exact parts_8 p tg w h
 by_cases k9:k=9
 · subst k9;exact parts_9 p tg w h
 by_cases k2:k=2
 · subst k2
   cases tg with
   |true=>exact parts_2t p w h
   |false=>exact parts_2f p w h
 exact parts_no k (by omega) p tg w h
theorem ISl.setOff2 {w:World} {k:IntKind} {A:Option Addr} {n c q j:Nat} {xs:List Int} {v:Value} (h:ISl w k A n c xs) (ho:∀ad,A=some ad→0<n→ad.block≠q):ISl (w.setCell ⟨q,j,none⟩ v) k A n c xs:=by
 refine ⟨h.1,h.2.1,h.2.2.1,fun hn=>?_⟩;obtain ⟨b,off,e,hb,hc⟩:=h.2.2.2 hn;have h2:=ho _ e hn;refine ⟨b,off,e,by simpa using hb,fun i hi=>?_⟩;rw [World.cell?_setCell_other _ _ _ _ (by intro e1;injection e1 with e2 _;exact h2 e2.symm)];exact hc i hi
structure LvSz (L:LV):Prop where
 txt:L.dev.length≤1000000∧L.port.length≤1000000∧L.peer.length≤1000000∧L.far.length≤1000000∧L.name.length≤1000000
 lst:L.tagged.length≤1000000∧L.imports.length≤1000000∧L.exports.length≤1000000∧L.addrs.length≤1000000
theorem vCs (w:World) (L:LV) (s1 s2 s3 s4:SlV) (T:TypeId):BoxF (w.alloc (.cells (lA L s1 s2 s3 s4) T)) w.heap.size 17 (lc L s1 s2 s3 s4):=by
 refine ⟨fun j hj=>?_,fun o=>by simp⟩
 match j,hj with
 |0,_|1,_|2,_|3,_|4,_|5,_|6,_|7,_|8,_|9,_|10,_|11,_|12,_|13,_|14,_|15,_|16,_=>simp [lc,SlV.val]
 |j+17,h=>exact absurd h (by omega)
structure CopyS (w:World) (L:LV) (s1 s2 s3 s4:SlV) (wr:World):Prop where
 p:BoxF wr w.heap.size 17 (lc L s1 s2 s3 s4)
 r:BoxF wr (w.heap.size+1) 17 (lc LV.zero SlV.nil SlV.nil SlV.nil SlV.nil)
 bel:Below w.heap.size w wr
theorem CopyS.keep {w wr w2:World} {L:LV} {s1 s2 s3 s4:SlV} (h:CopyS w L s1 s2 s3 s4 wr) (hb:Below wr.heap.size wr w2):CopyS w L s1 s2 s3 s4 w2:=
 ⟨h.p.below (by omega) hb,h.r.below (by omega) hb,h.bel.trans (hb.mono h.bel.size)⟩
theorem CopyS.put {w wr:World} {L:LV} {s1 s2 s3 s4 t1 t2 t3 t4:SlV} (h:CopyS w L s1 s2 s3 s4 wr) (j:Nat) (v:Value) (hj:j<17) (e:∀i,i<17→(if i=j then v else lc L s1 s2 s3 s4 i)=lc L t1 t2 t3 t4 i):CopyS w L t1 t2 t3 t4 (wr.setCell ⟨w.heap.size,j,none⟩ v):=
 ⟨(h.p.set j hj v).is e,h.r.off (by omega),h.bel.setCell (Nat.le_refl _) v⟩
theorem CopyS.same {w wr:World} {L:LV} {s1 s2 s3 s4:SlV} (h:CopyS w L s1 s2 s3 s4 wr) (j:Nat) (hj:j<17):CopyS w L s1 s2 s3 s4 (wr.setCell ⟨w.heap.size,j,none⟩ (lc L s1 s2 s3 s4 j)):=
 h.put j _ hj fun i _=>by
   by_cases e:i=j
   · rw [if_pos e,e]
   · rw [if_neg e]
def Ptrs (w:World) (g m p base:Nat):Prop:=p<g∧g<w.heap.size∧∀j,j<m→w.cell? ⟨g,j,none⟩=some (.pointer (some ⟨p,base+j,none⟩))
theorem Ptrs.keep {w w2:World} {g m p base:Nat} (h:Ptrs w g m p base) (hb:Below w.heap.size w w2):Ptrs w2 g m p base:=
 ⟨h.1,Nat.lt_of_lt_of_le h.2.1 hb.size,fun j hj=>(hb.cell (p:=⟨g,j,none⟩) h.2.1).trans (h.2.2 j hj)⟩
theorem Ptrs.set {w:World} {g m p base j:Nat} {v:Value} (h:Ptrs w g m p base):Ptrs (w.setCell ⟨p,j,none⟩ v) g m p base:=
 ⟨h.1,by simpa using h.2.1,fun i hi=>by rw [World.cell?_setCell_other _ _ _ _ (by intro e;injection e with e1 _;have:=h.1;omega)];exact h.2.2 i hi⟩
def ltx (L:LV):Nat→List UInt8
 |0=>L.dev
 |1=>L.port
 |2=>L.peer
 |3=>L.far
 |_=>L.name
theorem lc_txt (L:LV) (s1 s2 s3 s4:SlV) (k:Nat) (h:k<5):lc L s1 s2 s3 s4 (2+k)=.string (str (ltx L k)):=by
 match k,h with
 |0,_|1,_|2,_|3,_|4,_=>rfl
 |k+5,h=>exact absurd h (by omega)
theorem ltx_len {L:LV} (h:LvSz L) (k:Nat):(ltx L k).length≤1000000:=by
 have:=h.txt
 unfold ltx
 split<;>omega
def lsl (s1 s2 s3:SlV):Nat→SlV
 |0=>s1
 |1=>s2
 |_=>s3
def llist (L:LV):Nat→List Int
 |0=>L.tagged
 |1=>L.imports
 |_=>L.exports
theorem lc_sl (L:LV) (s1 s2 s3 s4:SlV) (k:Nat) (h:k<3):lc L s1 s2 s3 s4 (13+k)=.slice (lsl s1 s2 s3 k).A (lsl s1 s2 s3 k).n (lsl s1 s2 s3 k).c:=by
 match k,h with
 |0,_|1,_|2,_=>rfl
 |k+3,h=>exact absurd h (by omega)
theorem llist_len {L:LV} (h:LvSz L) (k:Nat):(llist L k).length≤1000000:=by
 have:=h.lst
 unfold llist
 split<;>omega
theorem copy_results (tmps:Array Value) (w:World) (q:Nat) (L:LV) (s1 s2 s3 s4:SlV) (h2:tmps[2]?.getD undef=.pointer (some ⟨q,0,none⟩)) (hb:BoxF w q 17 (lc L s1 s2 s3 s4)):
 (results Tryz.f88 tmps).run Tryz.prog w=.ok (vAv L s1 s2 s3 s4) w:=by
 have t0:w.cell? ⟨q,0,none⟩=some (.int .i64 L.row):=hb.cell 0 (by omega);have t1:w.cell? ⟨q,1,none⟩=some (.int .i64 L.kind):=hb.cell 1 (by omega);have t2:w.cell? ⟨q,2,none⟩=some (.string (str L.dev)):=hb.cell 2 (by omega);have t3:w.cell? ⟨q,3,none⟩=some (.string (str L.port)):=hb.cell 3 (by omega);have t4:w.cell? ⟨q,4,none⟩=some (.string (str L.peer)):=hb.cell 4 (by omega);have t5:w.cell? ⟨q,5,none⟩=some (.string (str L.far)):=hb.cell 5 (by omega)
 have t6:w.cell? ⟨q,6,none⟩=some (.string (str L.name)):=hb.cell 6 (by omega);have t7:w.cell? ⟨q,7,none⟩=some (.int .u64 L.mac):=hb.cell 7 (by omega);have t8:w.cell? ⟨q,8,none⟩=some (.int .u32 L.addr):=hb.cell 8 (by omega);have t9:w.cell? ⟨q,9,none⟩=some (.int .i64 L.bits):=hb.cell 9 (by omega);have t10:w.cell? ⟨q,10,none⟩=some (.int .i64 L.vlan):=hb.cell 10 (by omega);have t11:w.cell? ⟨q,11,none⟩=some (.int .i64 L.num):=hb.cell 11 (by omega)
 have t12:w.cell? ⟨q,12,none⟩=some (.int .i64 L.cost):=hb.cell 12 (by omega);have t13:w.cell? ⟨q,13,none⟩=some (.slice s1.A s1.n s1.c):=hb.cell 13 (by omega);have t14:w.cell? ⟨q,14,none⟩=some (.slice s2.A s2.n s2.c):=hb.cell 14 (by omega);have t15:w.cell? ⟨q,15,none⟩=some (.slice s3.A s3.n s3.c):=hb.cell 15 (by omega);have t16:w.cell? ⟨q,16,none⟩=some (.slice s4.A s4.n s4.c):=hb.cell 16 (by omega)
 clear hb;simp [results,Tryz.results88,go_sem,h2,t0,t1,t2,t3,t4,t5,t6,t7,t8,t9,t10,t11,t12,t13,t14,t15,t16,vAv]
def LTy (w:World) (t1 t2 t3 t4:SlV):Prop:=(∀ad,t1.A=some ad→TyI w ad.block)∧(∀ad,t2.A=some ad→TyI w ad.block)∧(∀ad,t3.A=some ad→TyI w ad.block)∧∀ad,t4.A=some ad→TyI w ad.block
theorem five_ptrs {w:World} (g p:Nat) (T:TypeId) (hp:p<w.heap.size) (hg:w.heap.size=g):Ptrs (w.alloc (.cells #[.pointer (some ⟨p,2,none⟩),.pointer (some ⟨p,3,none⟩),.pointer (some ⟨p,4,none⟩),.pointer (some ⟨p,5,none⟩),.pointer (some ⟨p,6,none⟩)] T)) g 5 p 2:=by
 subst hg;refine ⟨hp,by simp,fun j hj=>?_⟩
 match j,hj with
 |0,_|1,_|2,_|3,_|4,_=>simp
 |j+5,h=>exact absurd h (by omega)
theorem three_ptrs {w:World} (g p:Nat) (T:TypeId) (hp:p<w.heap.size) (hg:w.heap.size=g):Ptrs (w.alloc (.cells #[.pointer (some ⟨p,13,none⟩),.pointer (some ⟨p,14,none⟩),.pointer (some ⟨p,15,none⟩)] T)) g 3 p 13:=by
 subst hg;refine ⟨hp,by simp,fun j hj=>?_⟩
 match j,hj with
 |0,_|1,_|2,_=>simp
 |j+3,h=>exact absurd h (by omega)
theorem lsl_eta (t:Nat→SlV) (k:Nat) (h:k<3):lsl (t 0) (t 1) (t 2) k=t k:=by
 match k,h with
 |0,_|1,_|2,_=>rfl
 |k+3,h=>exact absurd h (by omega)
theorem lc_next (L:LV) (t:Nat→SlV) (u s4:SlV) (k:Nat) (hk:k<3) (i:Nat) (hi:i<17):
 (if i=13+k then Value.slice u.A u.n u.c else lc L (t 0) (t 1) (t 2) s4 i)=lc L ((fun j=>if j=k then u else t j) 0) ((fun j=>if j=k then u else t j) 1) ((fun j=>if j=k then u else t j) 2) s4 i:=by
 match k,hk with
 |0,_|1,_|2,_=>
  match i,hi with
  |0,_|1,_|2,_|3,_|4,_|5,_|6,_|7,_|8,_|9,_|10,_|11,_|12,_|13,_|14,_|15,_|16,_=>rfl
  |i+17,h=>exact absurd h (by omega)
 |k+3,h=>exact absurd h (by omega)
theorem wpList_moveline {ops:Array Oper} {rest:List Oper} {o1 o2:Oper} {a:Act} {w:World} {Q:Exit→Act→World→Prop} (hg1:o1.guard=none) (x1:Operand) (ho1:o1.op=.load 37 x1) (p:Nat) (hx1:a.eval x1=.pointer (some ⟨p,0,none⟩)) (L:LV) (s1 s2 s3 s4:SlV) (hb1:BoxF w p 17 (lc L s1 s2 s3 s4))
 (hg2:o2.guard=none) (x y:Operand) (ho2:o2.op=.store 37 x y) (q:Nat) (hx2:(a.put o1.dst (vAv L s1 s2 s3 s4)).eval x=.pointer (some ⟨q,0,none⟩)) (hy:(a.put o1.dst (vAv L s1 s2 s3 s4)).eval y=vAv L s1 s2 s3 s4) (g:Nat→Value) (hb2:BoxF w q 17 g)
 (h:∀w9,BoxF w9 q 17 (lc L s1 s2 s3 s4)→Ex q w w9→wpList Tryz.prog ops Q rest ((a.put o1.dst (vAv L s1 s2 s3 s4)).put o2.dst undef) w9):wpList Tryz.prog ops Q (o1 :: o2 :: rest) a w:=
 vAf (by unfold Region.wanted;rw [hg1]) x1 ho1 p hx1 L s1 s2 s3 s4 hb1 (vGl hg2 x y ho2 q hx2 L s1 s2 s3 s4 hy g hb2 h)
theorem lc_last (L:LV) (t1 t2 t3 s4 u:SlV) (i:Nat) (hi:i<17):(if i=16 then Value.slice u.A u.n u.c else lc L t1 t2 t3 s4 i)=lc L t1 t2 t3 u i:=by
 match i,hi with
 |0,_|1,_|2,_|3,_|4,_|5,_|6,_|7,_|8,_|9,_|10,_|11,_|12,_|13,_|14,_|15,_|16,_=>rfl
 |i+17,h=>exact absurd h (by omega)
theorem ISl.exOff {w w':World} {k:IntKind} {q:Nat} {s:SlV} {xs:List Int} (h:ISl w k s.A s.n s.c xs) (g:Ex q w w') (ho:∀ad,s.A=some ad→ad.block≠q):ISl w' k s.A s.n s.c xs:=by
 refine ⟨h.1,h.2.1,h.2.2.1,fun hn=>?_⟩;obtain ⟨b,off,e,hb,hc⟩:=h.2.2.2 hn;exact ⟨b,off,e,Nat.lt_of_lt_of_le hb g.size,fun i hi=>(g.cell (off+i) hb (ho _ e)).trans (hc i hi)⟩
structure SV (w:World) (q:Nat) (V:WV) (t1 t2:SlV) (wx:World):Prop where
 box:BoxF wx q 6 (vc V t1 t2)
 rd:vFa wx V t1 t2
 o1:∀ad,t1.A=some ad→w.heap.size≤ad.block∧ad.block≠q
 o2:∀ad,t2.A=some ad→w.heap.size≤ad.block∧ad.block≠q
 bel:Below w.heap.size w wx
 qle:w.heap.size≤q
section
variable {w wx:World} {q:Nat} {V U:WV} {t1 t2 u1 u2:SlV}
theorem SV.keep {w2:World} (h:SV w q V t1 t2 wx) (hb:Below wx.heap.size wx w2):SV w q V t1 t2 w2:=
 ⟨h.box.below (by omega) hb,⟨h.rd.1.below hb,h.rd.2.below hb⟩,h.o1,h.o2,h.bel.trans (hb.mono h.bel.size),h.qle⟩
theorem SV.cells (h:SV w q V t1 t2 wx):wx.cell? ⟨q,0,none⟩=some (.string (str V.text))∧wx.cell? ⟨q,1,none⟩=some (.int .i64 V.n)∧wx.cell? ⟨q,2,none⟩=some (.int .u64 V.mac)∧wx.cell? ⟨q,3,none⟩=some (.int .u32 V.addr)∧wx.cell? ⟨q,4,none⟩=some (.slice t1.A t1.n t1.c)∧wx.cell? ⟨q,5,none⟩=some (.slice t2.A t2.n t2.c)∧∀o,wx.frozen? ⟨q,o,none⟩=false:=
 ⟨h.box.cell 0 (by omega),h.box.cell 1 (by omega),h.box.cell 2 (by omega),h.box.cell 3 (by omega),h.box.cell 4 (by omega),h.box.cell 5 (by omega),h.box.2⟩
end
theorem SV.start (w:World) (T:TypeId):SV w w.heap.size WV.zero SlV.nil SlV.nil (w.alloc (.cells #[.string ⟨#[]⟩,.int .i64 0,.int .u64 0,.int .u32 0,.slice none 0 0,.slice none 0 0] T)):=by
 refine ⟨⟨fun j hj=>?_,fun o=>by simp⟩,⟨ISl.nil,ISl.nil⟩,fun ad h=>(by cases h),fun ad h=>(by cases h),(Below.refl _ _).alloc (Nat.le_refl _) _,Nat.le_refl _⟩
 match j,hj with
 |0,_|1,_|2,_|3,_|4,_|5,_=>simp [vc,WV.zero,SlV.nil,SlV.val,str]
 |j+6,h=>exact absurd h (by omega)
theorem val_desc:∃d,Tryz.prog.underlying 163=some d∧d.isRow=true:=⟨_,Tryz.underlying163,rfl⟩
theorem val_size:(Tryz.prog.info? 163).map (·.size)=some 6:=by kernel_rfl
def valC (V:WV) (t1 t2:SlV):List Value:=[.string (str V.text),.int .i64 V.n,.int .u64 V.mac,.int .u32 V.addr,.slice t1.A t1.n t1.c,.slice t2.A t2.n t2.c]
theorem valC_at (V:WV) (t1 t2:SlV) (j:Nat) (v:Value) (h:(valC V t1 t2)[j]?=some v):j<6∧v=vc V t1 t2 j:=by
 match j with
 |0|1|2|3|4|5=>exact ⟨by omega,by cases h;rfl⟩
 |j+6=>cases h
theorem BoxF.rangeV {w:World} {q:Nat} {V:WV} {t1 t2:SlV} (h:BoxF w q 6 (vc V t1 t2)):w.rangeAt q 0 (valC V t1 t2):=fun j v hv=>by
 obtain ⟨h1,rfl⟩:=valC_at V t1 t2 j v hv;rw [Nat.zero_add];exact h.1 j h1
theorem vIa:([]:List UInt8).length≤1000000:=by decide
theorem vFc:(0:Int)≤0∧(0:Int)<18446744073709551616:=by decide
theorem vFn:(0:Int)≤0∧(0:Int)<4294967296:=by decide
theorem vEm:([]:List Int).length≤1000000∧([]:List Int).length≤1000000:=by decide
theorem vDj {P:Program} {f:FuncId} {fn:Func} {c:Code} (hf:P.funcs[f]?=some fn) (hname:(fn.name == "runtime.NumGoroutine")=false) (hb:fn.body=some c) (args:Array Value) (w:World):(callFunc f args).run P w=.ok (.enter f args) w:=by
 have h2:¬fn.name="runtime.NumGoroutine":=by simpa using hname
 unfold callFunc;simp [go_sem,hf,h2,hb]
theorem run_fnum (k:Nat) (hk:k<16) (args:Array Value) (w:World):(callFunc (fnum k) args).run Tryz.prog w=.ok (.enter (fnum k) args) w:=by
 match k,hk with
 |0,_=>exact vDj Tryz.func155 (by kernel_rfl) rfl args w
 |1,_=>exact vDj Tryz.func158 (by kernel_rfl) rfl args w
 |2,_=>exact vDj Tryz.func163 (by kernel_rfl) rfl args w
 |3,_=>exact vDj Tryz.func164 (by kernel_rfl) rfl args w
 |4,_=>exact vDj Tryz.func167 (by kernel_rfl) rfl args w
 |5,_=>exact vDj Tryz.func160 (by kernel_rfl) rfl args w
 |6,_=>exact vDj Tryz.func156 (by kernel_rfl) rfl args w
 |7,_=>exact vDj Tryz.func161 (by kernel_rfl) rfl args w
 |8,_=>exact vDj Tryz.func159 (by kernel_rfl) rfl args w
 |9,_=>exact vDj Tryz.func157 (by kernel_rfl) rfl args w
 |10,_=>exact vDj Tryz.func165 (by kernel_rfl) rfl args w
 |11,_=>exact vDj Tryz.func170 (by kernel_rfl) rfl args w
 |12,_=>exact vDj Tryz.func162 (by kernel_rfl) rfl args w
 |13,_=>exact vDj Tryz.func168 (by kernel_rfl) rfl args w
 |14,_=>exact vDj Tryz.func169 (by kernel_rfl) rfl args w
 |15,_=>exact vDj Tryz.func166 (by kernel_rfl) rfl args w
 |k+16,h=>exact absurd h (by omega)
theorem below_box2 (w:World) (o:Obj):Below w.heap.size w (w.alloc o):=(Below.refl _ _).alloc (Nat.le_refl _) _
def OffP (p:Nat) (s:SlV):Prop:=∀ad,s.A=some ad→0<s.n→ad.block≠p
structure RdZ (Z:LV→Prop) (w:World) (p:Nat) (ps:List (Nat×Nat)) (A:Option Addr) (n c:Nat) (L:LV) (s1 s2 s3 s4:SlV) (wr:World):Prop where
 pw:w.heap.size≤p
 pl:p<wr.heap.size
 box:BoxF wr p 17 (lc L s1 s2 s3 s4)
 rd:LRead wr L s1 s2 s3 s4
 o1:OffP p s1
 o2:OffP p s2
 o3:OffP p s3
 o4:OffP p s4
 ps:PSl wr p A n c ps
 pa:∀ad,A=some ad→p<ad.block
 bel:Below w.heap.size w wr
 sz:Z L
section
variable {Z:LV→Prop} {w wr w2:World} {p:Nat} {ps:List (Nat×Nat)} {A:Option Addr} {n c:Nat} {L:LV} {s1 s2 s3 s4:SlV}
theorem PSl.below (h:PSl wr p A n c ps) (hb:Below wr.heap.size wr w2):PSl w2 p A n c ps:=by
 refine ⟨h.1,h.2.1,h.2.2.1,fun hn=>?_⟩;obtain ⟨b,e,hl,hc⟩:=h.2.2.2 hn;exact ⟨b,e,Nat.lt_of_lt_of_le hl hb.size,fun j hj=>⟨(hb.cell (p:=⟨b,j * 2,none⟩) hl).trans (hc j hj).1,(hb.cell (p:=⟨b,j * 2+1,none⟩) hl).trans (hc j hj).2⟩⟩
theorem PSl.ex2 {q:Nat} (h:PSl wr p A n c ps) (g:Ex2 p q wr w2) (ha:∀ad,A=some ad→ad.block≠p∧ad.block≠q):PSl w2 p A n c ps:=by
 refine ⟨h.1,h.2.1,h.2.2.1,fun hn=>?_⟩;obtain ⟨b,e,hl,hc⟩:=h.2.2.2 hn
 have:=ha _ e
 exact ⟨b,e,Nat.lt_of_lt_of_le hl g.size,fun j hj=>⟨(g.cell (j * 2) hl this.1 this.2).trans (hc j hj).1,(g.cell (j * 2+1) hl this.1 this.2).trans (hc j hj).2⟩⟩
theorem RdZ.keep (h:RdZ Z w p ps A n c L s1 s2 s3 s4 wr) (hb:Below wr.heap.size wr w2):RdZ Z w p ps A n c L s1 s2 s3 s4 w2:=
 ⟨h.pw,Nat.lt_of_lt_of_le h.pl hb.size,h.box.below (by omega) hb,⟨h.rd.1.below hb,h.rd.2.1.below hb,h.rd.2.2.1.below hb,h.rd.2.2.2.below hb⟩,h.o1,h.o2,h.o3,h.o4,h.ps.below hb,h.pa,h.bel.trans (hb.mono h.bel.size),h.sz⟩
theorem lt_isl {k:IntKind} {s:SlV} {xs:List Int} (h:ISl wr k s.A s.n s.c xs):∀ad,s.A=some ad→0<s.n→ad.block<wr.heap.size:=fun ad he hn=>by
 obtain ⟨b,off,e,hb,_⟩:=h.2.2.2 hn;rw [he] at e
 cases e
 exact hb
theorem RdZ.fv (h:RdZ Z w p ps A n c L s1 s2 s3 s4 wr) {q:Nat} {V:WV} {t1 t2:SlV} (hq:p≠q) (hv:BoxF wr q 6 (vc V t1 t2)) (hr:vFa wr V t1 t2)
 (f1:OffP q s1) (f2:OffP q s2) (f3:OffP q s3) (f4:OffP q s4) (g1:∀ad,t1.A=some ad→0<t1.n→ad.block≠p∧ad.block≠q) (g2:∀ad,t2.A=some ad→0<t2.n→ad.block≠p∧ad.block≠q):FV wr p q L s1 s2 s3 s4 V t1 t2:=
 ⟨hq,h.box,hv,⟨h.rd.1,fun ad e e2=>⟨h.o1 ad e e2,f1 ad e e2⟩⟩,⟨h.rd.2.1,fun ad e e2=>⟨h.o2 ad e e2,f2 ad e e2⟩⟩,⟨h.rd.2.2.1,fun ad e e2=>⟨h.o3 ad e e2,f3 ad e e2⟩⟩,⟨h.rd.2.2.2,fun ad e e2=>⟨h.o4 ad e e2,f4 ad e e2⟩⟩,⟨hr.1,g1⟩,⟨hr.2,g2⟩⟩
theorem RdZ.next (h:RdZ Z w p ps A n c L s1 s2 s3 s4 wr) {q:Nat} {M:LV} {V:WV} {r1 r2 r3 r4 t1 t2:SlV} (hq:w.heap.size≤q) (ha:∀ad,A=some ad→ad.block≠q) (hf:FV w2 p q M r1 r2 r3 r4 V t1 t2) (he:Ex2 p q wr w2) (hz:Z M):RdZ Z w p ps A n c M r1 r2 r3 r4 w2:=
 ⟨h.pw,Nat.lt_of_lt_of_le h.pl he.size,hf.box,⟨hf.l1.1,hf.l2.1,hf.l3.1,hf.l4.1⟩,fun ad e e2=>(hf.l1.2 ad e e2).1,fun ad e e2=>(hf.l2.2 ad e e2).1,fun ad e e2=>(hf.l3.2 ad e e2).1,fun ad e e2=>(hf.l4.2 ad e e2).1,
   h.ps.ex2 he (fun ad e=>⟨by have:=h.pa ad e;omega,ha ad e⟩),h.pa,Below.ex2 h.bel he h.pw hq h.bel.size,hz⟩
end
theorem vok_zero:VOk WV.zero:=⟨vIa,vFc,vFn,vEm⟩
def PsOk (ps:List (Nat×Nat)):Prop:=ps.length≤6∧∀x∈ps,x.1<13∧x.2<16
theorem pts_ok (k:Int) (tg:Bool):PsOk (pts k tg):=
 pts_cases (P:=PsOk) k tg (by unfold PsOk;decide) (by unfold PsOk;decide) (by unfold PsOk;decide) (by unfold PsOk;decide) (by unfold PsOk;decide) (by unfold PsOk;decide) (by unfold PsOk;decide) (by unfold PsOk;decide) (by unfold PsOk;decide) (by unfold PsOk;decide) (by unfold PsOk;decide)
theorem PsOk.at_ {ps:List (Nat×Nat)} (h:PsOk ps) (k:Nat):(ps.getD k (0,0)).1<13∧(ps.getD k (0,0)).2<16:=by
 rcases Nat.lt_or_ge k ps.length with e|e
 · rw [List.getD,List.getElem?_eq_getElem e]
   exact h.2 _ (List.getElem_mem e)
 · rw [List.getD,List.getElem?_eq_none e]
   decide
theorem alloc_fields (ρ:Operand→Value) (o:Oper) (ho:o.op=.alloc 155) (w:World):
 (execOp ρ o).run Tryz.prog w=.ok (.value (.pointer (some ⟨w.heap.size,0,none⟩))) (w.alloc (.cells #[.int .i64 0,.int .i64 0,.string ⟨#[]⟩,.string ⟨#[]⟩,.string ⟨#[]⟩,.string ⟨#[]⟩,.string ⟨#[]⟩,.int .u64 0,.int .u32 0,.int .i64 0,.int .i64 0,.int .i64 0,.int .i64 0,.slice none 0 0,.slice none 0 0,.slice none 0 0,.slice none 0 0] 155)):=by
 unfold execOp;rw [ho];simp [Instr.alloc,newVar,newRow,go_sem]
theorem fields_size:(Tryz.prog.info? 155).map (·.size)=some 17:=by kernel_rfl
theorem vIo {ops:Array Oper} {rest:List Oper} {o1 o2:Oper} {a:Act} {w:World} {Q:Exit→Act→World→Prop} (hg1:o1.guard=none) (ho1:o1.op=.alloc 155) (hg2:o2.guard=none) (x y:Operand) (ho2:o2.op=.store 155 x y)
 (hx:(a.put o1.dst (.pointer (some ⟨w.heap.size,0,none⟩))).eval x=.pointer (some ⟨w.heap.size,0,none⟩)) (L:LV) (s1 s2 s3 s4:SlV) (hy:(a.put o1.dst (.pointer (some ⟨w.heap.size,0,none⟩))).eval y=vAv L s1 s2 s3 s4)
 (h:∀w9,BoxF w9 w.heap.size 17 (lc L s1 s2 s3 s4)→Below w.heap.size w w9→w.heap.size<w9.heap.size→wpList Tryz.prog ops Q rest ((a.put o1.dst (.pointer (some ⟨w.heap.size,0,none⟩))).put o2.dst undef) w9):wpList Tryz.prog ops Q (o1 :: o2 :: rest) a w:=by
 obtain ⟨C,hC⟩:∃C,vAv L s1 s2 s3 s4=.agg C:=⟨_,rfl⟩
 have hs:C.size=17:=by injection hC with hC;subst hC;rfl
 have h1:C.all (·.oneCell')=true:=by injection hC with hC;subst hC;simp [Value.oneCell']
 have hb:=zero_box w 155;refine Great.wpList_runTo hg1 o1.dst rfl _ _ (alloc_fields _ o1 ho1 w) (wpList_put hg2 155 x y ho2 w.heap.size hx C (hy.trans hC) (fun j hj=>by rw [hb.1 j (by omega)];rfl) hb.2 (by rw [hs];exact fields_size) h1 fun w9 h2 h3 h4=>?_);exact h w9 ⟨fun j hj=>h2 j _ (lc_list L s1 s2 s3 s4 j hj C hC),h3⟩ (Below.ex ((Below.refl _ _).alloc (Nat.le_refl _) _) h4 (Nat.le_refl _) (by simp)) (Nat.lt_of_lt_of_le (by simp) h4.size)
theorem rd_sz (w:World) (o:Obj):(w.alloc o).heap.size=w.heap.size+1:=by simp
theorem BoxF.ex2 {w w':World} {p q b n:Nat} {f:Nat→Value} (h:BoxF w b n f) (hn:0<n) (g:Ex2 p q w w') (hp:b≠p) (hq:b≠q):BoxF w' b n f:=
 h.same (fun o=>g.cell o (h.lt hn) hp hq) (fun o=>g.frozen o (h.lt hn) hp hq)
end Go.Proofs.YtgmflecelnefcaaGreat
