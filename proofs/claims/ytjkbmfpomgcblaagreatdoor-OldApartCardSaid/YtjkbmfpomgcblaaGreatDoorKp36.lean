import Derived.Test.YtjkbmfpomgcblaaGreatDoorKp27
import Derived.Test.YtjkbmfpomgcblaaGreatDoorKp33
namespace Go.Proofs.YtjkbmfpomgcblaaGreatDoor
open Go.RowKit
def rowF (w:World) (F:Nat) (e p:Int):Prop:=w.heap[F]? = some (.cells #[.int .i64 e,.int .i64 p] 46 (0,0))
theorem rowF.at {w:World} {F:Nat} {e p:Int} (h:rowF w F e p):w.cell? ⟨F,0,none⟩=some (.int .i64 e)∧w.cell? ⟨F,1,none⟩=some (.int .i64 p) :=
 ⟨by rw [cell_of_row _ _ _ _ _ (0,0) h];rfl,by rw [cell_of_row _ _ _ _ _ (0,0) h];rfl⟩
theorem rowF.frozen {w:World} {F:Nat} {e p:Int} (h:rowF w F e p) (j:Nat):w.frozen? ⟨F,j,none⟩=false:=frozen_of_row w F j _ _ h
theorem rowF.below {w w':World} {F m:Nat} {e p:Int} (h:rowF w F e p) (hb:Below m w w') (hm:F < m):rowF w' F e p:=(hb.block F hm).trans h
theorem rowF.put {w:World} {F:Nat} {e p:Int} (h:rowF w F e p) (a b:Int):rowF ((w.setCell ⟨F,0,none⟩ (.int .i64 a)).setCell ⟨F,1,none⟩ (.int .i64 b)) F a b :=
 heap_setCell_same _ F 1 _ _ _ (heap_setCell_same w F 0 _ _ _ h)
end Go.Proofs.YtjkbmfpomgcblaaGreatDoor
namespace Go.Proofs.YtjkbmfpomgcblaaGreatDoor
open Go.RowKit
theorem frame_bytes (v:Nat) (I T:ByteArray) (h:sealL (80 :: 84 :: UInt8.ofNat v :: I.data.toList)=T.data.toList):sealB ((⟨#[80,84]⟩:ByteArray) ++ ⟨#[UInt8.ofNat v]⟩ ++ I)=T:=by
 apply bytes_ext
 rw [sealB_data,←h]
 simp
set_option maxRecDepth 100000 in
set_option maxHeartbeats 1000000 in
theorem oframed_as (v:Nat) (I T:ByteArray) (w:World) (hv:v≤255) (hI:I.size≤1000000) (h:sealL (80 :: 84 :: UInt8.ofNat v :: I.data.toList)=T.data.toList) :
   Calls Tryz.prog 48 #[.int .u8 (v:Int),.string I] w fun e w'=>e=.returned (.string T)∧Below w.heap.size w w':=by
 have hsl:=frame_bytes v I T h
 obtain ⟨B,hB⟩:∃ B:ByteArray,B=⟨#[UInt8.ofNat v]⟩:=⟨_,rfl⟩
 obtain ⟨A,hA⟩:∃ A:ByteArray,A=⟨#[80,84]⟩:=⟨_,rfl⟩
 rw [←hA,←hB] at hsl
 have hAz:A.size=2:=by rw [hA];rfl
 have hBz:B.size=1:=by rw [hB];rfl
 have HSL:=Lib.hid hsl
 have ha1:¬ (9223372036854775807 < A.size + B.size):=by omega
 have ha2:¬ (9223372036854775807 < (A ++ B).size + I.size):=by rw [ByteArray.size_append];omega
 have ha3:¬ (9223372036854775807 < A.size + B.size + I.size):=by omega
 have HSZ:Hid ((A ++ B ++ I).size≤140737488351232):=Lib.hid (by rw [ByteArray.size_append,ByteArray.size_append];omega)
 have hA2:(⟨#[80,84]⟩:ByteArray)=A:=hA.symm
 have hcA:=byte_lit v (v:Int) B rfl hB hv (w.alloc (.cells #[.int .u8 (v:Int)] 5)) w.heap.size (heap_alloc_new w _)
 have HBA:Hid (Below w.heap.size w (w.alloc (.cells #[.int .u8 (v:Int)] 5))):=Lib.hid ((Below.refl _ _).alloc (Nat.le_refl _) _)
 clear h hsl hA hB
 go_enter Tryz.func48,Tryz.ntmps48
 rw [hA2]
 go_wp2_with fail
 refine (seal_any _ _ HSZ.out).mono ?_
 rintro r w1 ⟨rfl,hb1⟩
 have HB1:Hid (Below w.heap.size w w1):=Lib.hid (HBA.out.trans (hb1.mono HBA.out.size))
 clear hb1
 go_wp2
 go_ret
 exact ⟨by rw [←HSL.out];rfl,HB1.out⟩
set_option maxRecDepth 100000 in
theorem onumput_to (n:Nat) (N:ByteArray) (w:World) (h:n≤9223372036854775807) (hN:putL n=N.data.toList) :
   Calls Tryz.prog 46 #[.int .i64 (n:Int)] w fun e w'=>e=.returned (.string N)∧Below w.heap.size w w':=by
 have hu:IntKind.u64.wrap (n:Int)=(n:Int):=by rw [IntKind.wrap_u64];omega
 have HP:Hid ((⟨(putL (n:Int).toNat).toArray⟩:ByteArray)=N):=Lib.hid (by rw [Int.toNat_natCast,hN,bs_of])
 clear hN
 go_enter Tryz.func46,Tryz.ntmps46
 go_wp2_with fail
 refine (put_any (n:Int) w (by omega) (by omega)).mono ?_
 rintro r w1 ⟨rfl,hb1⟩
 rw [HP.out]
 have HB1:=Lib.hid hb1
 clear hb1
 go_wp2
 go_ret
 exact ⟨rfl,HB1.out⟩
theorem entsP_snoc (l:List Ent) (j:Nat) (t:Ent) (h:l[j]? = some t):entsP (l.take (j + 1))=entsP (l.take j) ++ (putL t.rep.toNat ++ putL t.time.toNat):=by
 rw [List.take_add_one,h];simp [entsP]
theorem entsP_len (l:List Ent) (h:∀ e∈l,0≤e.rep∧e.rep≤200∧0≤e.time∧e.time≤1099511627776):(entsP l).length≤20 * l.length:=by
 induction l with
 | nil=>simp [entsP]
 | cons x l ih =>
   have hx:=h x List.mem_cons_self
   rw [entsP_cons,List.length_append,List.length_append,List.length_cons]
   have h1:=putL_le10 (n:=x.rep.toNat) (by omega)
   have h2:=putL_le10 (n:=x.time.toNat) (by omega)
   have h3:=ih (fun e he=>h e (List.mem_cons_of_mem _ he))
   omega
theorem of_data (l:List UInt8):∃ B:ByteArray,l=B.data.toList:=⟨⟨l.toArray⟩,by simp⟩
theorem app_dataO (A B:ByteArray):(A ++ B).data.toList=A.data.toList ++ B.data.toList:=by simp
set_option maxRecDepth 100000 in
set_option maxHeartbeats 2000000 in
theorem oplain_to (v:Value) (l:List Ent) (P:ByteArray) (w:World) (hv:IsEnts w v l) (hl:l.length≤16) (hok:∀ e∈l,0≤e.rep∧e.rep≤200∧0≤e.time∧e.time≤1099511627776) (hP:plainL l=P.data.toList) :
   Calls Tryz.prog 45 #[v] w fun e w'=>e=.returned (.string P)∧Below w.heap.size w w':=by
 obtain ⟨a,c,rfl,hf⟩:=hv.form
 obtain ⟨n,hn⟩:∃ n,n=l.length:=⟨_,rfl⟩
 rw [←hn] at hl ⊢
 obtain ⟨N,hN⟩:=of_data (putL n)
 have HNZ:Hid (N.size≤10):=Lib.hid (by rw [size_data,←hN];exact putL_le10 (by omega))
 have HN:=Lib.hid hN
 have HLN:=Lib.hid hn
 have HF:=Lib.hid hf
 have HOK:=Lib.hid hok
 have HP:=Lib.hid hP
 have HNC:=Lib.hid (fun w'=>onumput_to n N w' (by omega) hN)
 clear hv hN hn hf hok hP
 go_enter Tryz.func45,Tryz.ntmps45
 go_wp2_with fail
 refine (HNC.out w).mono ?_
 rintro r w1 ⟨rfl,hb1⟩
 have HB1:=Lib.hid hb1
 clear hb1
 go_wp2
 go_loopw [3,10] (fun sv iv wr=>∃ (j:Nat) (S:ByteArray),j≤n∧iv=.int .i64 j∧sv=.string S∧S.data.toList=putL n ++ entsP (l.take j)∧Below w.heap.size w wr) (fun _ iv _=>n - (intOf iv).toNat)
 case atStart=>exact ⟨0,N,Nat.zero_le _,rfl,rfl,by rw [←HN.out];simp [entsP],HB1.out⟩
 case round =>
   obtain ⟨j,S,hj,rfl,rfl,hS,hb⟩:=hrel
   have HS:=Lib.hid hS
   have HB:=Lib.hid hb
   clear hS hb
   by_cases hlt:j < n
   · obtain ⟨t, ht⟩ : ∃ t, l[j]? = some t := ⟨l[j]'(by have := HLN.out; omega), List.getElem?_eq_getElem _⟩
     obtain ⟨b,off,rfl,hbw,p0,p1⟩:=HF.out j t ht
     obtain ⟨rep,time⟩:=t
     have hk:=HOK.out _ (List.mem_of_getElem? ht)
     have hsn:=entsP_snoc l j _ ht
     simp only at p0 p1 hk hsn
     obtain ⟨rn,rfl⟩:=Int.eq_ofNat_of_zero_le hk.1
     obtain ⟨tn,rfl⟩:=Int.eq_ofNat_of_zero_le hk.2.2.1
     rw [Int.toNat_natCast,Int.toNat_natCast] at hsn
     obtain ⟨A,hA⟩:=of_data (putL rn)
     obtain ⟨C,hC⟩:=of_data (putL tn)
     have HAC:=Lib.hid (fun w'=>onumput_to rn A w' (by omega) hA)
     have HCC:=Lib.hid (fun w'=>onumput_to tn C w' (by omega) hC)
     have hAz:A.size≤10:=by rw [size_data,←hA];exact putL_le10 (by omega)
     have hCz:C.size≤10:=by rw [size_data,←hC];exact putL_le10 (by omega)
     have hSz:S.size≤1000:=by
       rw [size_data,HS.out,List.length_append]
       have h1:=entsP_len (l.take j) (fun e he=>HOK.out e (List.mem_of_mem_take he))
       rw [List.length_take] at h1
       have h2:=putL_le10 (n:=n) (by omega)
       omega
     have HNX:Hid ((S ++ (A ++ C)).data.toList=putL n ++ entsP (l.take (j + 1))):=Lib.hid (by rw [app_dataO,app_dataO,HS.out,hsn,←hA,←hC,List.append_assoc])
     have ha1:¬ (9223372036854775807 < A.size + C.size):=by omega
     have ha2:¬ (9223372036854775807 < S.size + (A ++ C).size):=by rw [ByteArray.size_append];omega
     have ha3:¬ (9223372036854775807 < S.size + (A.size + C.size)):=by omega
     have q0:=(HB.out.cell (p:=⟨b,off + j * 2,none⟩) hbw).trans p0
     have q1:=(HB.out.cell (p:=⟨b,off + j * 2 + 1,none⟩) hbw).trans p1
     have HQ0:=Lib.hid p0
     have HQ1:=Lib.hid p1
     have HBW:=Lib.hid hbw
     have hj0:(0:Int)≤(j:Int):=by omega
     have hj1:(j:Int) < (n:Int):=by omega
     clear p0 p1 ht hk hsn hA hC hAz hCz hSz
     go_wp2
     go_region_held3 (fun w'=>w'.cell? ⟨b,off + j * 2,none⟩=some (.int .i64 (rn:Int))∧w'.cell? ⟨b,off + j * 2 + 1,none⟩=some (.int .i64 (tn:Int))) (first | exact ⟨q0,q1⟩ | exact ⟨k0,k1⟩ | exact ⟨m0,m1⟩ | fail) (first
       | (go_at_call 46;((with_reducible refine (HAC.out wr.drew).mono ?_);rintro r w2 ⟨rfl,hb2⟩;have HB2:Hid (Below w.heap.size w w2):=Lib.hid (HB.out.trans ((undrewP hb2).mono HB.out.size));have k0:=(HB2.out.cell (p:=⟨b,off + j * 2,none⟩) HBW.out).trans HQ0.out;have k1:=(HB2.out.cell (p:=⟨b,off + j * 2 + 1,none⟩) HBW.out).trans HQ1.out;clear hb2))
       | (go_at_call 46;((with_reducible refine (HCC.out w2).mono ?_);rintro r w3 ⟨rfl,hb3⟩;have HB3:Hid (Below w.heap.size w w3):=Lib.hid (HB2.out.trans (hb3.mono HB2.out.size));have m0:=(HB3.out.cell (p:=⟨b,off + j * 2,none⟩) HBW.out).trans HQ0.out;have m1:=(HB3.out.cell (p:=⟨b,off + j * 2 + 1,none⟩) HBW.out).trans HQ1.out;clear hb3))
       | fail)
     clear q0 q1 k0 k1 m0 m1
     go_wp2
     go_roundw
     case rel=>exact ⟨j + 1,S ++ (A ++ C),by omega,by go_num,rfl,HNX.out,HB3.out⟩
     case measure=>simp [intOf];omega
   · obtain rfl:j=n:=by omega
     have HSP:Hid (S=P):=Lib.hid (by
       apply bytes_ext
       rw [HS.out,←HP.out,HLN.out,List.take_length]
       rfl)
     go_wp2
     go_ret
     exact ⟨by rw [HSP.out];rfl,HB.out⟩
end Go.Proofs.YtjkbmfpomgcblaaGreatDoor
