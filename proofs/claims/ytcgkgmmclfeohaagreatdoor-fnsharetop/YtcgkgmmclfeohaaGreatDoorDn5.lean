/- Drawing for the share: what happens. -/
import Derived.Test.YtcgkgmmclfeohaaGreatDoorJ32
namespace Go.Proofs.YtcgkgmmclfeohaaGreatDoor
open Go.RowKit
structure DJ (w W:World) (rb len N:Nat) (v tv bv:Value):Prop where
 a:CB W w.heap.size [tv,bv]
 r:CB W (w.heap.size+1) [.int .i64 0,.string ⟨#[]⟩,.slice none 0 0]
 rd:Rd W rb v len N
 g:w.grownBy W (some rb)
variable {w W X:World} {rb len N M q kd':Nat} {v tv bv lv:Value} {kd:Int} {nm:BA} {list:List BA}
theorem DJ.gr(h:DJ w W rb len N v tv bv)(hrb:rb<w.heap.size)(hg:W.grownBy X (some rb))(hr:Rd X rb v len M):DJ w X rb len M v tv bv :=
 ⟨h.a.kept hg (by simp;omega),h.r.kept hg (by simp;omega),hr,S3 h.g hg⟩
theorem DJ.up(h:DJ w W rb len N v tv bv)(hb:Up W X):DJ w X rb len N v tv bv :=
 ⟨h.a.up hb h.a.2.2,h.r.up hb h.r.2.2,h.rd.kept hb,S3 h.g (Bm hb)⟩
theorem DJ.alloc(h:DJ w W rb len N v tv bv)(o:Obj):DJ w (W.alloc o) rb len N v tv bv:=h.up ((A4 _ _).alloc (A3 _) _)
theorem DJ.drew(h:DJ w W rb len N v tv bv):DJ w W.drew rb len N v tv bv:=⟨h.a,h.r,h.rd,Cb h.g⟩
theorem DJ.own{base e size n:Nat}{u:Value}{xs:List Value}(h:DJ w W rb len N v tv bv)(hrb:rb<w.heap.size)(hown:W.ownsRow base e size u n xs)(hg:W.grownBy X u.ownBlock)(hk:w.heap.size+2<=base):DJ w X rb len N v tv bv :=
 ⟨h.a.kept hg (Af hown (by omega)),h.r.kept hg (Af hown (by omega)),h.rd.own hown hg (by omega),Ih h.g hown hg (by omega)⟩
theorem DJ.set(h:DJ w W rb len N v tv bv)(hrb:rb<w.heap.size)(hq:w.heap.size+2<=q)(j:Nat)(u:Value):DJ w (W.setCell ⟨q,j,none⟩ u) rb len N v tv bv :=
 ⟨h.a.other (by omega),h.r.other (by omega),h.rd.setCell (by omega),AK h.g (by omega) _⟩
theorem DJ.mono(h:DJ w W rb len N v tv bv)(hM:N<=M):DJ w W rb len M v tv bv:=⟨h.a,h.r,h.rd.mono hM,h.g⟩
theorem DJ.size(h:DJ w W rb len N v tv bv):w.heap.size+2<=W.heap.size:=h.r.2.2
structure DQ (w W:World) (rb len N q:Nat) (v tv bv:Value) (kd:Int) (nm:BA) (lv:Value) (list:List BA):Prop where
 j:DJ w W rb len N v tv bv
 d:CB W q [.int .i64 kd,.string nm,lv]
 l:G3 W (q+1) lv list
 qz:w.heap.size+2<=q
 nz:nm.size<=maxLen
 lz:∀s∈list,s.size<=maxLen
 ll:list.length<=100
theorem DQ.gr(h:DQ w W rb len N q v tv bv kd nm lv list)(hrb:rb<w.heap.size)(hg:W.grownBy X (some rb))(hr:Rd X rb v len M):DQ w X rb len M q v tv bv kd nm lv list :=
 have:=h.qz;⟨h.j.gr hrb hg hr,h.d.kept hg (by simp;omega),J0 h.l hg (by omega),h.qz,h.nz,h.lz,h.ll⟩
theorem DQ.up(h:DQ w W rb len N q v tv bv kd nm lv list)(hb:Up W X):DQ w X rb len N q v tv bv kd nm lv list :=
 ⟨h.j.up hb,h.d.up hb h.d.2.2,h.l.up hb,h.qz,h.nz,h.lz,h.ll⟩
theorem DQ.alloc(h:DQ w W rb len N q v tv bv kd nm lv list)(o:Obj):DQ w (W.alloc o) rb len N q v tv bv kd nm lv list:=h.up ((A4 _ _).alloc (A3 _) _)
theorem DQ.drew(h:DQ w W rb len N q v tv bv kd nm lv list):DQ w W.drew rb len N q v tv bv kd nm lv list:=⟨h.j.drew,h.d,h.l,h.qz,h.nz,h.lz,h.ll⟩
theorem DQ.mono(h:DQ w W rb len N q v tv bv kd nm lv list)(hM:N<=M):DQ w W rb len M q v tv bv kd nm lv list:=⟨h.j.mono hM,h.d,h.l,h.qz,h.nz,h.lz,h.ll⟩
theorem DQ.set0(h:DQ w W rb len N q v tv bv kd nm lv list)(hrb:rb<w.heap.size)(x:Int):DQ w (W.setCell ⟨q,0,none⟩ (Iz x)) rb len N q v tv bv x nm lv list :=
 ⟨h.j.set hrb h.qz _ _,h.d.set (j:=0) (by simp),J0 h.l (E6 (F4 _ _) _) (by omega),h.qz,h.nz,h.lz,h.ll⟩
theorem DQ.set1(h:DQ w W rb len N q v tv bv kd nm lv list)(hrb:rb<w.heap.size)(s:BA)(hs:s.size<=maxLen):DQ w (W.setCell ⟨q,1,none⟩ (Tz s)) rb len N q v tv bv kd s lv list :=
 ⟨h.j.set hrb h.qz _ _,h.d.set (j:=1) (by simp),J0 h.l (E6 (F4 _ _) _) (by omega),h.qz,hs,h.lz,h.ll⟩
theorem DQ.set2(h:DQ w W rb len N q v tv bv kd nm lv list)(hrb:rb<w.heap.size)(u:Value)(ss:List BA)(hu:G3 W (q+1) u ss)(hz:∀s∈ss,s.size<=maxLen)(hl:ss.length<=100):DQ w (W.setCell ⟨q,2,none⟩ u) rb len N q v tv bv kd nm u ss :=
 ⟨h.j.set hrb h.qz _ _,h.d.set (j:=2) (by simp),J0 hu (E6 (F4 _ _) _) (by omega),h.qz,h.nz,hz,hl⟩
theorem DQ.lt(h:DQ w W rb len N q v tv bv kd nm lv list):q<W.heap.size:=h.d.2.2
theorem Abc{base r:Nat}{u x0 x1 x2:Value}{ss:List BA}(h:G3 W base u ss)(hr:r<base):G3 (((W.setCell ⟨r,0,none⟩ x0).setCell ⟨r,1,none⟩ x1).setCell ⟨r,2,none⟩ x2) base u ss :=
 J0 (J0 (J0 h (E6 (rb:=r) (off:=0) (F4 W _) x0) hr) (E6 (rb:=r) (off:=1) (F4 _ _) x1) hr) (E6 (rb:=r) (off:=2) (F4 _ _) x2) hr
theorem DQ.fin{al:Option Addr}{cl:Nat}(h:DQ w W rb len N q v tv bv kd nm (Vz al list.length cl) list)(hrb:rb<w.heap.size)(hM:N<=M):
  (∃(kd':Int)(nm':BA)(al':Option Addr)(cl':Nat)(list':List BA),Ending.returned (.agg #[Iz kd,Tz nm,Vz al list.length cl])=.returned (.agg #[Iz kd',Tz nm',Vz al' list'.length cl'])/\
   G3 (((W.setCell ⟨w.heap.size+1,0,none⟩ (Iz kd)).setCell ⟨w.heap.size+1,1,none⟩ (Tz nm)).setCell ⟨w.heap.size+1,2,none⟩ (Vz al list.length cl)) w.heap.size (Vz al' list'.length cl') list'/\nm'.size<=maxLen/\(∀s∈list',s.size<=maxLen)/\list'.length<=100)/\
  Rd (((W.setCell ⟨w.heap.size+1,0,none⟩ (Iz kd)).setCell ⟨w.heap.size+1,1,none⟩ (Tz nm)).setCell ⟨w.heap.size+1,2,none⟩ (Vz al list.length cl)) rb v len M/\
  w.grownBy (((W.setCell ⟨w.heap.size+1,0,none⟩ (Iz kd)).setCell ⟨w.heap.size+1,1,none⟩ (Tz nm)).setCell ⟨w.heap.size+1,2,none⟩ (Vz al list.length cl)) (some rb):=by
 have hq:=h.qz;exact⟨⟨kd,nm,al,cl,list,rfl,N1 (Abc h.l (by omega)) (by omega),h.nz,h.lz,h.ll⟩,(((h.j.rd.setCell (by omega)).setCell (by omega)).setCell (by omega)).mono hM,AK (AK (AK h.j.g (by omega) _) (by omega) _) (by omega) _⟩
end Go.Proofs.YtcgkgmmclfeohaaGreatDoor
