/- Drawing: a number in decimals. -/
import Derived.Test.YtmfjakieahkacaaGreatDoorJ2
import Derived.Laws.IdiomStrings
import Derived.Deep.RegionWith
namespace Go.Proofs.YtmfjakieahkacaaGreatDoor
open Go.RowKit
theorem UN(w:World)(n:Int)(h0:0<=n)(h1:n<10):
  (convert 22 9 (.slice (some ⟨w.heap.size,0,none⟩) 1 1)).run Tryz.prog (w.alloc (.cells #[.int .u8 (48+n)] 5))=.ok (.string ⟨#[UInt8.ofNat (48+n).toNat]⟩) (w.alloc (.cells #[.int .u8 (48+n)] 5)):=by
 refine run_convert_bytes_back (P:=Tryz.prog) (w.alloc (.cells #[.int .u8 (48+n)] 5)) 22 9 5 ⟨w.heap.size,0,none⟩ 1 [UInt8.ofNat (48+n).toNat] Tryz.underlying22 Tryz.underlying5 Tryz.underlying9 (λj hj=>?_);obtain rfl:j=0:=by simpa using hj
 have e:((UInt8.ofNat (48+n).toNat).toNat:Int)=48+n:=by
  rw[UInt8.toNat_ofNat'];omega
 simp only[List.getElem_cons_zero,e];simp[go_sem,Addr.add]
theorem Pb(n:Int)(w:World)(h0:0<=n)(h1:n<10):
  Calls Tryz.prog 115 #[.int .i64 n] w
   λe w'=>(∃s:ByteArray,e=.returned (.string s)/\s.size<=10)/\Below w.heap.size w w':=by
 have hcv:=UN w n h0 h1;go_enter Tryz.func115,Tryz.ntmps115;go_wp2_with fail;go_ret;exact⟨⟨_,rfl,by show 1<=10;omega⟩,by go_grown⟩
theorem GW(W:World)(g:Nat)(x:Int)(h0:0<=x)(h1:x<256)(hc:W.cell? ⟨g,0,none⟩=some (.int .u8 x)):
  (convert 22 9 (.slice (some ⟨g,0,none⟩) 1 1)).run Tryz.prog W=.ok (.string ⟨#[UInt8.ofNat x.toNat]⟩) W:=by
 refine run_convert_bytes_back (P:=Tryz.prog) W 22 9 5 ⟨g,0,none⟩ 1 [UInt8.ofNat x.toNat] Tryz.underlying22 Tryz.underlying5 Tryz.underlying9 (λj hj=>?_);obtain rfl:j=0:=by simpa using hj
 have e:((UInt8.ofNat x.toNat).toNat:Int)=x:=by
  rw[UInt8.toNat_ofNat'];omega
 simp only[List.getElem_cons_zero,e];exact hc
theorem UO(s:ByteArray)(b:UInt8)(h:s.size<=10):(s++⟨#[b]⟩:ByteArray).size<=20:=by
 rw[ByteArray.size_append];show s.size+1<=20;omega
theorem AdM{w w1:World}{x:Int}{t:TypeId}(h:Below (w.alloc (.cells #[.int .u8 x] t)).drew.heap.size (w.alloc (.cells #[.int .u8 x] t)).drew w1):w1.cell? ⟨w.heap.size,0,none⟩=some (.int .u8 x) :=
 (h.cell (p:=⟨w.heap.size,0,none⟩) (by simp)).trans (by simp[go_sem])
set_option maxRecDepth 20000 in
theorem WW(n:Int)(w:World)(h0:10<=n)(h1:n<100):
  Calls Tryz.prog 115 #[.int .i64 n] w
   λe w'=>(∃s:ByteArray,e=.returned (.string s)/\s.size<=20)/\Below w.heap.size w w':=by
 have hq:Hid (IntKind.i64.wrap (n.tdiv 10)=n / 10):=by
  show _=_;rw[IntKind.wrap_i64,Int.tdiv_eq_ediv_of_nonneg (by omega)];omega
 have hX:Hid (0<=IntKind.u8.wrap (IntKind.i64.wrap (48+n.tmod 10))/\IntKind.u8.wrap (IntKind.i64.wrap (48+n.tmod 10))<256):=by
  show _/\_
  generalize IntKind.i64.wrap (48+n.tmod 10)=y;rw[IntKind.wrap_u8];omega
 go_enter Tryz.func115,Tryz.ntmps115;go_wp2_with fail;have hcv0:=GW (w.alloc (.cells #[.int .u8 (IntKind.u8.wrap (IntKind.i64.wrap (48+n.tmod 10)))] 5)).drew w.heap.size _ hX.out.1 hX.out.2 (by simp[go_sem])
 go_region_with
  (go_at_call 115;refine (Pb _ _ (by rw[hq.out];omega) (by rw[hq.out];omega)).mono ?_;rintro e w1 ⟨⟨s,rfl,hs⟩,hB1⟩;first
   | (have hd:=AdM hB1;have hcv2:=GW w1 w.heap.size _ hX.out.1 hX.out.2 hd;clear hd)
   | have hcv1:=GW (w1.alloc (.cells #[.int .u8 (IntKind.u8.wrap (IntKind.i64.wrap (48+n.tmod 10)))] 5)) w1.heap.size _ hX.out.1 hX.out.2 (by simp[go_sem]))
 all_goals
  go_wp2_with fail;go_ret;refine⟨⟨_,rfl,UO _ _ hs⟩,?_⟩
  first
   | exact D1 (A4 _ _).drew (D1 hB1 ((A4 _ _).alloc (A3 _) _))
   | exact D1 (((A4 _ _).alloc (A3 _) _).drew) hB1
theorem Zp(n:Int)(w:World)(h0:0<=n)(h1:n<100):
  Calls Tryz.prog 115 #[.int .i64 n] w
   λe w'=>(∃s:ByteArray,e=.returned (.string s)/\s.size<=20)/\Below w.heap.size w w':=by
 by_cases h:n<10
 ·refine (Pb n w h0 h).mono ?_;rintro e w' ⟨⟨s,rfl,hs⟩,hB⟩;exact⟨⟨s,rfl,by omega⟩,hB⟩
 ·exact WW n w (by omega) h1
end Go.Proofs.YtmfjakieahkacaaGreatDoor
