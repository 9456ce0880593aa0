/- The specification's numbers in decimals. -/
import Derived.Test.YtaffjphkobhagaaGreatDoorJ4
import Derived.Test.YtaffjphkobhagaaGreatDoorJ42
import Derived.Lib.ItoaLen
namespace Go.Proofs.YtaffjphkobhagaaGreatDoor
open Proofs.Tryz
open Go.RowKit
def En(n:Int):BA:=⟨(Lib.decDigits n.toNat).toArray⟩
theorem Ac7(l:List UInt8)(b:UInt8):((⟨l.toArray⟩:BA)++⟨#[b]⟩:BA)=⟨(l++[b]).toArray⟩:=by
 apply ByteArray.ext
 rw[ByteArray.data_append];simp
theorem Aa7(n:Int)(h0:0<=n):En n=I3 n:=by
 unfold En I3 Lib.itoa;rw[if_neg oM]
theorem AeN(n:Int)(h0:0<=n)(h1:n<=1000000):(En n).size<=21:=by
 rw[Aa7 n h0];exact Lib.itoa_length_le n oM oM
theorem Yb(n:Int)(w:World)(h0:0<=n)(h1:n<10):
  cU prog 13 #[Iz n] w (Tz (En n)):=by
 have a0:=ZO w n h0 h1
 have Hd:Hid (En n=⟨#[UInt8.ofNat (48+n).toNat]⟩):=by
  show _=_;unfold En;rw[Lib.decDigits_one oM,show (48+n).toNat=48+n.toNat by omega]
 delta cU;go_in;go_wp2_with fail;go_ret;exact⟨by rw[Hd.out];rfl,by go_grown⟩
theorem Ac8(n:Int)(h0:10<=n)(h1:n<=1000000):(En (n / 10)++⟨#[UInt8.ofNat (48+n % 10).toNat]⟩:BA)=En n:=by
 unfold En;have e2:=Lib.decDigits.eq_def n.toNat;rw[dif_neg oM] at e2;rw[Ac7,e2,show (n / 10).toNat=n.toNat / 10 by omega,show (48+n % 10).toNat=48+n.toNat % 10 by omega]
set_option maxHeartbeats 1000000 in
set_option maxRecDepth 20000 in
theorem Wb(n:Int)(w:World)(h0:0<=n)(h1:n<=1000000):
  cU prog 13 #[Iz n] w (Tz (En n)):=by
 by_cases h9:n<10
 .exact Yb n w h0 h9
 have ih:=λ(w:World)=>Wb (n / 10) w oM oM;have Ih:Hid (∀w:World,Calls prog 13 #[Iz (n / 10)] w λe w'=>e=.returned (Tz (En (n / 10)))/\Up w w'):=ih;clear ih
 have hq:Hid (IntKind.i64.wrap (n.tdiv 10)=n / 10):=by
  show _=_;rw[IntKind.wrap_i64,Int.tdiv_eq_ediv_of_nonneg oM];omega
 have hX:Hid (0<=IntKind.u8.wrap (IntKind.i64.wrap (48+n.tmod 10))/\IntKind.u8.wrap (IntKind.i64.wrap (48+n.tmod 10))<256):=by
  show _/\_
  generalize IntKind.i64.wrap (48+n.tmod 10)=y;rw[IntKind.wrap_u8];omega
 have Sz:Hid ((En (n / 10)).size<=21):=AeN _ oM oM;delta cU;go_in;go_wp2_with fail;have a1:=JA (w.alloc (Kz [.int .u8 (IntKind.u8.wrap (IntKind.i64.wrap (48+n.tmod 10)))] 5)).drew w.heap.size _ hX.out.1 hX.out.2 (by simp[go_sem])
 go_region_with
  (go_at_call 13;rw[hq.out];refine (Ih.out _).mono ?_;obtain⟨s,hs,a4⟩:∃s,Hid (s=En (n / 10))/\s.size<=21:=⟨_,rfl,Sz.out⟩;rw[← hs.out];rintro e w1 ⟨rfl,a0⟩;first
   | (have hd:=Aia a0;have a2:=JA w1 w.heap.size _ hX.out.1 hX.out.2 hd;clear hd)
   | have a3:=JA (w1.alloc (Kz [.int .u8 (IntKind.u8.wrap (IntKind.i64.wrap (48+n.tmod 10)))] 5)) w1.heap.size _ hX.out.1 hX.out.2 (by simp[go_sem]))
 all_goals
  go_wp2_with fail;go_ret;refine⟨by rw[← Ac8 n oM h1,← hs.out];rfl,?_⟩
  first
   | exact D3 (A4 _ _).drew (D3 a0 ((A4 _ _).alloc (A3 _) _))
   | exact D3 (((A4 _ _).alloc (A3 _) _).drew) a0
termination_by n.toNat
decreasing_by omega
theorem KF(n:Int)(w:World)(h0:0<=n)(h1:n<=1000000):
  cU prog 13 #[Iz n] w (Tz (I3 n)):=by
 rw[← Aa7 n h0];exact Wb n w h0 h1
end Go.Proofs.YtaffjphkobhagaaGreatDoor
