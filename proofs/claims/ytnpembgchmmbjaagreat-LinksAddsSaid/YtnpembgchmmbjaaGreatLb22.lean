import Derived.Test.YtnpembgchmmbjaaGreatLb21
import Derived.Test.YtnpembgchmmbjaaGreatLb01
import Derived.Test.YtnpembgchmmbjaaGreatLb06
import Derived.Test.YtnpembgchmmbjaaGreatLb12
import Derived.WalkMore
import Derived.Deep.QuietTactic
set_option maxRecDepth 100000
set_option maxHeartbeats 40000000
namespace Go.Proofs.YtnpembgchmmbjaaGreat
open Go.RowKit
def vGe (w:World) (os:List Obj):World:=os.foldl World.alloc w
theorem vGh:∀(os:List Obj) (w:World),(vGe w os).heap.size=w.heap.size+os.length
 | [],_=>rfl
 |o :: r,w=>by
  show (vGe (w.alloc o) r).heap.size=_
  rw [vGh r,List.length_cons];simp;omega
theorem vFl:∀(os:List Obj) (w:World),Below w.heap.size w (vGe w os)
 | [],_=>Below.refl _ _
 |o :: r,w=>vAa (vAc w o) (vFl r (w.alloc o))
theorem allocs_at:∀(os:List Obj) (w:World) (i:Nat) (o:Obj),os[i]?=some o→(vGe w os).heap[w.heap.size+i]?=some o
 | [],_,_,_,h=>by simp at h
 |x :: r,w,0,o,h=>by
  obtain rfl:x=o:=by simpa using h
  exact ((vFl r (w.alloc x)).block w.heap.size (by simp)).trans (heap_alloc_new w x)
 |x :: r,w,i+1,o,h=>by
  have:=allocs_at r (w.alloc x) i o (by simpa using h)
  rw [show (w.alloc x).heap.size+i=w.heap.size+(i+1) by simp;omega] at this;exact this
theorem vFv {α:Type} (R:Rdr α) (w:World) (F:Nat→Prop) (b:Nat) (xs:List α) (vss:List (List Value)) (T:TypeId) (hF:F b) (hw:w.heap[b]?=some (.cells vss.flatten.toArray T)) (hl:xs.length≤1000) (h:∀(j:Nat) (x:α),xs[j]?=some x→∃vs,vss[j]?=some vs∧R.rd w F vs x):RSl R w F (some ⟨b,0,none⟩) xs.length xs.length xs:=by
 refine ⟨rfl,Nat.le_refl _,by unfold maxLen;omega,(fun h=>by cases h),fun hn=>⟨b,0,rfl,hF,?_,fun j x hx=>?_⟩⟩
 · rcases Nat.lt_or_ge b w.heap.size with g|g
   · exact g
   · rw [Array.getElem?_eq_none g] at hw;cases hw
 · obtain ⟨vs,e,hr⟩:=h j x hx
   refine ⟨vs,hr,fun i v hv=>?_⟩
   have key:∀(k:Nat) (ys:List α) (us:List (List Value)),(∀(j:Nat) (x:α),ys[j]?=some x→∃vs,us[j]?=some vs∧R.rd w F vs x)→∀vs x,ys[k]?=some x→us[k]?=some vs→vs[i]?=some v→us.flatten[k * R.n+i]?=some v:=by
    intro k
    induction k with
    |zero=>
     intro ys us hu vs x hy he hi
     match us,he with
     |u :: us,he=>
      obtain rfl:u=vs:=by simpa using he
      rw [Nat.zero_mul,Nat.zero_add,List.flatten_cons,List.getElem?_append_left]
      · exact hi
      · exact (List.getElem?_eq_some_iff.1 hi).1
    |succ k ih=>
     intro ys us hu vs x hy he hi
     match ys,us,hy,he with
     |y :: ys,u :: us,hy,he=>
      obtain ⟨u',hu',hr'⟩:=hu 0 y rfl
      obtain rfl:u=u':=by simpa using hu'
      have hlen:=R.len hr';rw [List.flatten_cons,List.getElem?_append_right (by rw [hlen,Nat.succ_mul];omega),hlen,show (k+1) * R.n+i - R.n=k * R.n+i by rw [Nat.succ_mul];omega];exact ih ys us (fun j x hx=>by have:=hu (j+1) x (by simpa using hx);simpa using this) vs x (by simpa using hy) (by simpa using he) hi
   have:=key j xs vss h vs x hx e hv
   rw [Nat.zero_add,World.cell?,hw];simpa using this
theorem otX_ok {N:NV} (h:NetOk N) (p:Int):otX N p=otC N p:=by unfold otX;rw [if_pos (vFy h)]
theorem crX_ok {N:NV} (h:NetOk N) (p v:Int):crX N p v=crT N p v:=by unfold crX;rw [if_pos (vFy h)]
def ex17:NV:=⟨[⟨0,0,[97],0,0⟩,⟨0,0,[98],0,0⟩],[⟨0,0,10,0,0,[112],[20]⟩,⟨0,1,30,0,0,[112],[20]⟩],[⟨0,0,1⟩],[⟨0,10,0,-1,0,[]⟩,⟨0,20,0,-1,0,[]⟩,⟨1,30,0,-1,0,[]⟩,⟨1,20,0,-1,0,[]⟩],[],[],[],[]⟩
theorem lt2 {i:Nat} (h:i<2):i=0∨i=1:=by omega
theorem lt4 {i:Nat} (h:i<4):i=0∨i=1∨i=2∨i=3:=by omega
theorem ex17_ok:NetOk ex17:=by
 refine ⟨by decide,by decide,by decide,by decide,by decide,by decide,by decide,by decide,⟨?_,?_⟩,?_,?_,⟨?_,?_,?_,?_⟩⟩
 · intro i hi
   rcases lt4 hi with rfl|rfl|rfl|rfl<;>exact ⟨by decide,by decide,by decide,by decide,.inl rfl⟩
 · intro i hi
   rcases lt4 hi with rfl|rfl|rfl|rfl<;>exact fun j hj=>absurd hj (Nat.not_lt_zero _)
 · intro i hi
   rcases lt2 hi with rfl|rfl
   · exact ⟨by decide,by decide,by decide,by decide,by decide,by decide,fun _=>by decide,fun j hj=>(by obtain rfl:=one_lt hj;decide),.inr ⟨by decide,.inl rfl⟩⟩
   · exact ⟨by decide,by decide,by decide,by decide,by decide,by decide,fun _=>by decide,fun j hj=>(by obtain rfl:=one_lt hj;decide),.inr ⟨by decide,.inr rfl⟩⟩
 · intro i hi
   obtain rfl:=one_lt hi;exact ⟨by decide,by decide,by decide,rfl,rfl⟩
 all_goals exact fun i hi=>absurd hi (Nat.not_lt_zero _)
theorem ex17_sz:NvSz ex17:=by
 refine ⟨by decide,by decide,by decide,by decide,by decide,by decide,by decide,by decide,?_,?_,?_,?_⟩
 · intro i hi
   rcases lt2 hi with rfl|rfl<;>decide
 · intro i hi
   rcases lt4 hi with rfl|rfl|rfl|rfl<;>decide
 all_goals exact fun i hi=>absurd hi (Nat.not_lt_zero _)
def ex17S (q:Nat):NSl3:=⟨⟨some ⟨q,0,none⟩,2,2⟩,⟨some ⟨q+1+1+1,0,none⟩,2,2⟩,⟨some ⟨q+1+1+1+1,0,none⟩,1,1⟩,⟨some ⟨q+1+1+1+1+1,0,none⟩,4,4⟩,Sl3.nil,Sl3.nil,Sl3.nil,Sl3.nil⟩
def ex17O (q:Nat):List Obj:=[.cells #[.int .i64 0,.int .i64 0,.string ⟨#[97]⟩,.int .u64 0,.int .u32 0,.int .i64 0,.int .i64 0,.string ⟨#[98]⟩,.int .u64 0,.int .u32 0] 56,.cells #[.int .i64 20] 3,.cells #[.int .i64 20] 3,.cells #[.int .i64 0,.int .i64 0,.int .i64 10,.int .i64 0,.int .i64 0,.string ⟨#[112]⟩,.slice (some ⟨q+1,0,none⟩) 1 1,.int .i64 0,.int .i64 1,.int .i64 30,.int .i64 0,.int .i64 0,.string ⟨#[112]⟩,.slice (some ⟨q+1+1,0,none⟩) 1 1] 52,.cells #[.int .i64 0,.int .i64 0,.int .i64 1] 58,.cells #[.int .i64 0,.int .i64 10,.int .i64 0,.int .i64 (-1),.int .i64 0,.slice none 0 0,.int .i64 0,.int .i64 20,.int .i64 0,.int .i64 (-1),.int .i64 0,.slice none 0 0,.int .i64 1,.int .i64 30,.int .i64 0,.int .i64 (-1),.int .i64 0,.slice none 0 0,.int .i64 1,.int .i64 20,.int .i64 0,.int .i64 (-1),.int .i64 0,.slice none 0 0] 60,.cells #[.slice (some ⟨q,0,none⟩) 2 2,.slice (some ⟨q+1+1+1,0,none⟩) 2 2,.slice (some ⟨q+1+1+1+1,0,none⟩) 1 1,.slice (some ⟨q+1+1+1+1+1,0,none⟩) 4 4,.slice none 0 0,.slice none 0 0,.slice none 0 0,.slice none 0 0] 31]
theorem ex17_read (w:World):NRead (vGe w (ex17O w.heap.size)) (vAw (vGe w (ex17O w.heap.size))) ex17 (ex17S w.heap.size):=by
 have at_:=fun i o (h:(ex17O w.heap.size)[i]?=some o)=>allocs_at (ex17O w.heap.size) w i o h
 have lt:∀k,k<7→w.heap.size+k<(vGe w (ex17O w.heap.size)).heap.size:=fun k hk=>by rw [vGh];exact Nat.add_lt_add_left hk _
 have t1:=vFv (Rdr.int .i64) _ (vAw (vGe w (ex17O w.heap.size))) (w.heap.size+1) [20] [[.int .i64 20]] 3 (lt 1 (by omega)) (at_ 1 _ rfl) (by decide) (fun j x hx=>by
  match j,hx with
  |0,hx=>obtain rfl:20=x:=by simpa using hx
         exact ⟨_,rfl,rfl⟩)
 have t2:=vFv (Rdr.int .i64) _ (vAw (vGe w (ex17O w.heap.size))) (w.heap.size+2) [20] [[.int .i64 20]] 3 (lt 2 (by omega)) (at_ 2 _ rfl) (by decide) (fun j x hx=>by
  match j,hx with
  |0,hx=>obtain rfl:20=x:=by simpa using hx
         exact ⟨_,rfl,rfl⟩)
 refine ⟨vFv devR _ _ (w.heap.size+0) ex17.devices (ex17.devices.map devC) 56 (lt 0 (by omega)) (at_ 0 _ rfl) (by decide) (fun j x hx=>⟨_,by rw [List.getElem?_map,hx];rfl,rfl⟩),?_,vFv linkR _ _ (w.heap.size+4) ex17.links (ex17.links.map vDl) 58 (lt 4 (by omega)) (at_ 4 _ rfl) (by decide) (fun j x hx=>⟨_,by rw [List.getElem?_map,hx];rfl,rfl⟩),?_,RSl.nil,RSl.nil,RSl.nil,RSl.nil⟩
 · exact vFv portR _ _ (w.heap.size+3) ex17.ports [portC ⟨0,0,10,0,0,[112],[20]⟩ ⟨some ⟨w.heap.size+1,0,none⟩,1,1⟩,portC ⟨0,1,30,0,0,[112],[20]⟩ ⟨some ⟨w.heap.size+2,0,none⟩,1,1⟩] 52 (lt 3 (by omega)) (at_ 3 _ rfl) (by decide) (fun j x hx=>by
    match j,hx with
    |0,hx=>obtain rfl:(⟨0,0,10,0,0,[112],[20]⟩:PortV)=x:=by simpa [ex17] using hx
           exact ⟨_,rfl,_,rfl,t1⟩
    |1,hx=>obtain rfl:(⟨0,1,30,0,0,[112],[20]⟩:PortV)=x:=by simpa [ex17] using hx
           exact ⟨_,rfl,_,rfl,t2⟩
    |j+2,hx=>simp [ex17] at hx)
 · exact vFv domR _ _ (w.heap.size+5) ex17.domains (ex17.domains.map fun D=>domC D Sl3.nil) 60 (lt 5 (by omega)) (at_ 5 _ rfl) (by decide) (fun j x hx=>⟨_,by rw [List.getElem?_map,hx];rfl,_,rfl,(by
    match j,hx with
    |0,hx=>obtain rfl:(⟨0,10,0,-1,0,[]⟩:DomV)=x:=by simpa [ex17] using hx
           exact RSl.nil
    |1,hx=>obtain rfl:(⟨0,20,0,-1,0,[]⟩:DomV)=x:=by simpa [ex17] using hx
           exact RSl.nil
    |2,hx=>obtain rfl:(⟨1,30,0,-1,0,[]⟩:DomV)=x:=by simpa [ex17] using hx
           exact RSl.nil
    |3,hx=>obtain rfl:(⟨1,20,0,-1,0,[]⟩:DomV)=x:=by simpa [ex17] using hx
           exact RSl.nil
    |j+4,hx=>simp [ex17] at hx)⟩)
theorem works17_any (w:World):Calls Tryz.prog 6 #[] w fun e w'=>e=.returned (.bool true)∧Below w.heap.size w w':=by
 obtain ⟨W,hW⟩:∃W,vGe w (ex17O w.heap.size)=W:=⟨_,rfl⟩;have R:=ex17_read w;have B:=vFl (ex17O w.heap.size) w;have Z:=vGh (ex17O w.heap.size) w;have C:=allocs_at (ex17O w.heap.size) w 6 _ rfl;rw [hW] at R B Z C;have Z:W.heap.size=w.heap.size+7:=Z
 have XC:=fun (p v:Int) (wx:World) (hx:Below W.heap.size W wx)=>xcross_any ex17 _ p v wx (R.up hx) ex17_sz
 have XD:=fun (wx:World) (hx:Below W.heap.size W wx)=>xdomain17_any ex17 _ 0 10 wx (R.up hx) ex17_sz
 have XO:=fun (wx:World) (hx:Below W.heap.size W wx)=>xother_any ex17 _ 1 wx (R.up hx) ex17_sz
 simp only [otX_ok ex17_ok,crX_ok ex17_ok] at XC XD XO;have X1:=XC 0 10;have X2:=XC 1 20;have X3:=XC 0 30;rw [show otC ex17 0=1 by decide,show crT ex17 0 10=30 by decide,crV_yes (by decide)] at X1;rw [show otC ex17 1=0 by decide,show crT ex17 1 20=20 by decide,crV_yes (by decide)] at X2;rw [show crT ex17 0 30=0 by decide,crV_no rfl] at X3;rw [show crT ex17 0 10=30 by decide,show atF ex17 (ptA ex17 (otC ex17 0)).dev 30=2 by decide,dmV_yes (by decide)] at XD
 rw [show otC ex17 1=0 by decide] at XO
 have KN:=Lib.hid (show ∀wx,Below W.heap.size W wx→(wx.cell? ⟨w.heap.size+1+1+1+1+1+1,0,none⟩=some (.slice (some ⟨w.heap.size,0,none⟩) 2 2)∧wx.cell? ⟨w.heap.size+1+1+1+1+1+1,1,none⟩=some (.slice (some ⟨w.heap.size+1+1+1,0,none⟩) 2 2)∧wx.cell? ⟨w.heap.size+1+1+1+1+1+1,2,none⟩=some (.slice (some ⟨w.heap.size+1+1+1+1,0,none⟩) 1 1)∧wx.cell? ⟨w.heap.size+1+1+1+1+1+1,3,none⟩=some (.slice (some ⟨w.heap.size+1+1+1+1+1,0,none⟩) 4 4)∧wx.cell? ⟨w.heap.size+1+1+1+1+1+1,4,none⟩=some (.slice none 0 0)∧wx.cell? ⟨w.heap.size+1+1+1+1+1+1,5,none⟩=some (.slice none 0 0)∧wx.cell? ⟨w.heap.size+1+1+1+1+1+1,6,none⟩=some (.slice none 0 0)∧wx.cell? ⟨w.heap.size+1+1+1+1+1+1,7,none⟩=some (.slice none 0 0))∧Below w.heap.size w wx from fun wx hx=>by
  have g:=range_list (vs:=[.slice (some ⟨w.heap.size,0,none⟩) 2 2,.slice (some ⟨w.heap.size+1+1+1,0,none⟩) 2 2,.slice (some ⟨w.heap.size+1+1+1+1,0,none⟩) 1 1,.slice (some ⟨w.heap.size+1+1+1+1+1,0,none⟩) 4 4,.slice none 0 0,.slice none 0 0,.slice none 0 0,.slice none 0 0]) ((hx.block (w.heap.size+6) (by omega)).trans C)
  exact ⟨⟨by simpa using g 0 _ rfl,by simpa using g 1 _ rfl,by simpa using g 2 _ rfl,by simpa using g 3 _ rfl,by simpa using g 4 _ rfl,by simpa using g 5 _ rfl,by simpa using g 6 _ rfl,by simpa using g 7 _ rfl⟩,vAa B hx⟩)
 unfold vAy ex17S Sl3.nil at X1 X2 X3 XD XO;dsimp only at X1 X2 X3 XD XO;replace X1:=Lib.hid X1;replace X2:=Lib.hid X2;replace X3:=Lib.hid X3;replace XD:=Lib.hid XD;replace XO:=Lib.hid XO;clear XC R B Z C
 go_enter Tryz.func6,Tryz.ntmps6
 go_upto_region 2 with fail
 rw [show (((((((w.alloc (.cells #[.int .i64 0,.int .i64 0,.string ⟨#[97]⟩,.int .u64 0,.int .u32 0,.int .i64 0,.int .i64 0,.string ⟨#[98]⟩,.int .u64 0,.int .u32 0] 56)).alloc (.cells #[.int .i64 20] 3)).alloc (.cells #[.int .i64 20] 3)).alloc (.cells #[.int .i64 0,.int .i64 0,.int .i64 10,.int .i64 0,.int .i64 0,.string ⟨#[112]⟩,.slice (some ⟨w.heap.size+1,0,none⟩) 1 1,.int .i64 0,.int .i64 1,.int .i64 30,.int .i64 0,.int .i64 0,.string ⟨#[112]⟩,.slice (some ⟨w.heap.size+1+1,0,none⟩) 1 1] 52)).alloc (.cells #[.int .i64 0,.int .i64 0,.int .i64 1] 58)).alloc (.cells #[.int .i64 0,.int .i64 10,.int .i64 0,.int .i64 (-1),.int .i64 0,.slice none 0 0,.int .i64 0,.int .i64 20,.int .i64 0,.int .i64 (-1),.int .i64 0,.slice none 0 0,.int .i64 1,.int .i64 30,.int .i64 0,.int .i64 (-1),.int .i64 0,.slice none 0 0,.int .i64 1,.int .i64 20,.int .i64 0,.int .i64 (-1),.int .i64 0,.slice none 0 0] 60)).alloc (.cells #[.slice (some ⟨w.heap.size,0,none⟩) 2 2,.slice (some ⟨w.heap.size+1+1+1,0,none⟩) 2 2,.slice (some ⟨w.heap.size+1+1+1+1,0,none⟩) 1 1,.slice (some ⟨w.heap.size+1+1+1+1+1,0,none⟩) 4 4,.slice none 0 0,.slice none 0 0,.slice none 0 0,.slice none 0 0] 31))=W from hW]
 obtain ⟨f0,f1,f2,f3,f4,f5,f6,f7⟩:=(KN.out _ (Below.refl _ _)).1
 go_wp2_with (first
  |(go_at_call 18;(with_reducible refine (X1.out _ (Below.refl _ _)).mono ?_);rintro e w1_ ⟨rfl,hb⟩;have Y1:=Lib.hid (hb);obtain ⟨f0,f1,f2,f3,f4,f5,f6,f7⟩:=(KN.out _ Y1.out).1;clear hb)
  |(go_at_call 18;(with_reducible refine (X2.out _ Y1.out).mono ?_);rintro e w2_ ⟨rfl,hb⟩;have Y2:=Lib.hid (vAa Y1.out hb);obtain ⟨f0,f1,f2,f3,f4,f5,f6,f7⟩:=(KN.out _ Y2.out).1;clear hb)
  |(go_at_call 19;(with_reducible refine (XD.out _ Y2.out).mono ?_);rintro e w3_ ⟨rfl,hb⟩;have Y3:=Lib.hid (vAa Y2.out hb);obtain ⟨f0,f1,f2,f3,f4,f5,f6,f7⟩:=(KN.out _ Y3.out).1;clear hb)
  |(go_at_call 18;(with_reducible refine (X3.out _ Y3.out).mono ?_);rintro e w4_ ⟨rfl,hb⟩;have Y4:=Lib.hid (vAa Y3.out hb);obtain ⟨f0,f1,f2,f3,f4,f5,f6,f7⟩:=(KN.out _ Y4.out).1;clear hb)
  |(go_at_call 15;(with_reducible refine (XO.out _ Y4.out).mono ?_);rintro e w5_ ⟨rfl,hb⟩;have Y5:=Lib.hid (vAa Y4.out hb);obtain ⟨f0,f1,f2,f3,f4,f5,f6,f7⟩:=(KN.out _ Y5.out).1;clear hb))
 go_ret;exact ⟨by first|rfl|simp,(KN.out _ Y5.out).2⟩
open Go.Lib (byteCells)
open Go.Lib (byteCells)
open Go.Lib (byteCells)
def os (E:Int) (ps:List (List UInt8)):List (List UInt8):=if E=0 then ps else []
open Go.Lib (byteCells)
end Go.Proofs.YtnpembgchmmbjaaGreat
