package isa_test

import (
	"fmt"
	"testing"

	"gannet/api"
	"gannet/isa"
)

// P28.4: what is written by each mode.
func TestStores(t *testing.T) {
	all(t, []step{
		{"85 10", "A=05 X=06 Y=07", "", "F0:85 O1:10 D2:EA S1F0010:05", "PC=E002", "10:05"},
		{"95 F0", "A=05 X=20 Y=07", "", "F0:95 O1:F0 D2:EA S1F0010:05", "PC=E002", "10:05"},
		{"8D 00 21", "A=05", "", "F0:8D O1:00 O2:21 D3:EA S1F0100:05", "PC=E003", "100:05"},
		{"9D 00 21", "A=05 X=06 Y=07", "", "F0:9D O1:00 O2:21 D3:EA S1F0106:05", "PC=E003", "106:05"},
		{"99 00 21", "A=05 X=06 Y=07", "", "F0:99 O1:00 O2:21 D3:EA S1F0107:05", "PC=E003", "107:05"},
		{"92 FF", "A=05 X=06 Y=07", "0:21 FF:08", "F0:92 O1:FF D2:EA L1F00FF:08 L1F0000:21 D2:EA S1F0108:05", "PC=E002", "0:21 FF:08 108:05"},
		{"81 1A", "A=05 X=06 Y=07", "20:08,21", "F0:81 O1:1A D2:EA L1F0020:08 L1F0021:21 D2:EA S1F0108:05", "PC=E002", "20:08,21 108:05"},
		{"91 20", "A=05 X=06 Y=07", "20:08,21", "F0:91 O1:20 D2:EA L1F0020:08 L1F0021:21 D2:EA S1F010F:05", "PC=E002", "20:08,21 10F:05"},
		{"86 10", "A=05 X=06 Y=07 P=NZ", "", "F0:86 O1:10 D2:EA S1F0010:06", "PC=E002", "10:06"},
		{"96 10", "A=05 X=06 Y=07", "", "F0:96 O1:10 D2:EA S1F0017:06", "PC=E002", "17:06"},
		{"8E 10 20", "A=05 X=06 Y=07", "", "F0:8E O1:10 O2:20 D3:EA S1F0010:06", "PC=E003", "10:06"},
		{"84 10", "A=05 X=06 Y=07", "", "F0:84 O1:10 D2:EA S1F0010:07", "PC=E002", "10:07"},
		{"94 10", "A=05 X=06 Y=07", "", "F0:94 O1:10 D2:EA S1F0016:07", "PC=E002", "16:07"},
		{"8C 10 20", "A=05 X=06 Y=07", "", "F0:8C O1:10 O2:20 D3:EA S1F0010:07", "PC=E003", "10:07"},
		{"64 10", "A=05 X=06 Y=07", "10:FF", "F0:64 O1:10 D2:EA S1F0010:00", "PC=E002", ""},
		{"74 10", "A=05 X=06 Y=07", "10:FF 16:EE", "F0:74 O1:10 D2:EA S1F0016:00", "PC=E002", "10:FF"},
		{"9C 10 20", "A=05 X=06 Y=07", "10:FF", "F0:9C O1:10 O2:20 D3:EA S1F0010:00", "PC=E003", ""},
		{"9E 10 20", "A=05 X=06 Y=07", "10:FF 16:EE", "F0:9E O1:10 O2:20 D3:EA S1F0016:00", "PC=E003", "10:FF"},
		{"9D F8 FF", "A=05 X=10 M0=FB", "", "F0:9D O1:F8 O2:FF D3:EA S1F6008:05", "PC=E003", "8:05"},
		// To what isn't memory nothing is written, but it is told.
		{"8D 00 40", "A=05", "", "F0:8D O1:00 O2:40 D3:EA S2000:05", "PC=E003", ""},
		{"8D 00 80", "A=05", "", "F0:8D O1:00 O2:80 D3:EA S100000:05", "PC=E003", ""},
		{"8D 00 A0", "A=05", "", "F0:8D O1:00 O2:A0 D3:EA SAA000:05", "PC=E003", ""},
	})
}

// P28.4: what is written to devices is there.
func TestStoresToDevices(t *testing.T) {
	for _, c := range []struct {
		code string
		told string
		want api.Status
	}{
		{"8D 00 0C", "F0:8D O1:00 O2:0C D3:EA S1FEC00:85", api.Status{Latch: 0x85, Reload: 5, Left: 3072}},
		{"8D 01 0C", "F0:8D O1:01 O2:0C D3:EA S1FEC01:85", api.Status{Latch: 0x85, On: true, Left: 3072}},
		{"8D 02 14", "F0:8D O1:02 O2:14 D3:EA S1FF402:85", api.Status{Latch: 0x85, Disable: 5, Left: 3072}},
		{"8D 00 08", "F0:8D O1:00 O2:08 D3:EA S1FE800:85", api.Status{Latch: 0x85, Left: 3072}},
		{"8D 00 00", "F0:8D O1:00 O2:00 D3:EA S1FE000:85", api.Status{Left: 3072}},
		{"9D FF 0B", "F0:9D O1:FF O2:0B D3:EA S1FEC00:85", api.Status{Latch: 0x85, Reload: 5, Left: 3072}},
	} {
		s := with(t, base(), "A=85 X=01")
		b := laid(t, s, c.code, "", 100)
		isa.New(s, b).Step()
		if got := b.Status(); got != c.want || told(b.Trace()) != c.told {
			t.Errorf("%s: %v, not %v; %s", c.code, got, c.want, told(b.Trace()))
		}
	}
}

// P28.4: A is changed.
func TestChangesOfA(t *testing.T) {
	all(t, []step{
		{"0A", "A=81 X=11", "", "F0:0A D1:EA", "A=02 P=C PC=E001", "-"},
		{"4A", "A=81", "", "F0:4A D1:EA", "A=40 P=C PC=E001", "-"},
		{"2A", "A=80 P=N", "", "F0:2A D1:EA", "A=00 P=ZC PC=E001", "-"},
		{"2A", "A=41 P=C", "", "F0:2A D1:EA", "A=83 P=N PC=E001", "-"},
		{"6A", "A=02 P=C", "", "F0:6A D1:EA", "A=81 P=N PC=E001", "-"},
		{"6A", "A=01", "", "F0:6A D1:EA", "A=00 P=ZC PC=E001", "-"},
		{"1A", "A=FF P=C", "", "F0:1A D1:EA", "A=00 P=ZC PC=E001", "-"},
		{"1A", "A=7F", "", "F0:1A D1:EA", "A=80 P=N PC=E001", "-"},
		{"3A", "A=00 P=V", "", "F0:3A D1:EA", "A=FF P=NV PC=E001", "-"},
		{"3A", "A=01", "", "F0:3A D1:EA", "A=00 P=Z PC=E001", "-"},
	})
}

// P28.4: memory is changed, behind a dummy access.
func TestChangesOfMemory(t *testing.T) {
	all(t, []step{
		{"06 10", "A=33 X=01", "10:81", "F0:06 O1:10 D2:EA L1F0010:81 D2:EA S1F0010:02", "P=C PC=E002", "10:02"},
		{"16 FF", "A=33 X=11", "10:40", "F0:16 O1:FF D2:EA L1F0010:40 D2:EA S1F0010:80", "P=N PC=E002", "10:80"},
		{"0E 10 20", "", "10:01", "F0:0E O1:10 O2:20 D3:EA L1F0010:01 D3:EA S1F0010:02", "PC=E003", "10:02"},
		{"1E 10 20", "X=05", "15:01", "F0:1E O1:10 O2:20 D3:EA L1F0015:01 D3:EA S1F0015:02", "PC=E003", "15:02"},
		{"46 10", "P=C", "10:01", "F0:46 O1:10 D2:EA L1F0010:01 D2:EA S1F0010:00", "P=ZC PC=E002", ""},
		{"56 10", "X=01", "11:80", "F0:56 O1:10 D2:EA L1F0011:80 D2:EA S1F0011:40", "PC=E002", "11:40"},
		{"26 10", "P=C", "10:80", "F0:26 O1:10 D2:EA L1F0010:80 D2:EA S1F0010:01", "P=C PC=E002", "10:01"},
		{"3E 10 20", "X=05", "15:C0", "F0:3E O1:10 O2:20 D3:EA L1F0015:C0 D3:EA S1F0015:80", "P=NC PC=E003", "15:80"},
		{"66 10", "P=C", "10:02", "F0:66 O1:10 D2:EA L1F0010:02 D2:EA S1F0010:81", "P=N PC=E002", "10:81"},
		{"6E 10 20", "", "10:03", "F0:6E O1:10 O2:20 D3:EA L1F0010:03 D3:EA S1F0010:01", "P=C PC=E003", "10:01"},
		{"E6 10", "A=33", "10:FF", "F0:E6 O1:10 D2:EA L1F0010:FF D2:EA S1F0010:00", "P=Z PC=E002", ""},
		{"FE 10 20", "X=05", "15:7F", "F0:FE O1:10 O2:20 D3:EA L1F0015:7F D3:EA S1F0015:80", "P=N PC=E003", "15:80"},
		{"C6 10", "A=33", "", "F0:C6 O1:10 D2:EA L1F0010:00 D2:EA S1F0010:FF", "P=N PC=E002", "10:FF"},
		{"D6 10", "X=01", "11:01", "F0:D6 O1:10 D2:EA L1F0011:01 D2:EA S1F0011:00", "P=Z PC=E002", ""},
		{"04 10", "A=0F", "10:F0", "F0:04 O1:10 D2:EA L1F0010:F0 D2:EA S1F0010:FF", "P=NVZ PC=E002", "10:FF"},
		{"0C 10 20", "A=0F", "10:01", "F0:0C O1:10 O2:20 D3:EA L1F0010:01 D3:EA S1F0010:0F", "P= PC=E003", "10:0F"},
		{"14 10", "A=0F", "10:55", "F0:14 O1:10 D2:EA L1F0010:55 D2:EA S1F0010:50", "P=V PC=E002", "10:50"},
		{"1C 10 20", "A=0F", "10:80", "F0:1C O1:10 O2:20 D3:EA L1F0010:80 D3:EA S1F0010:80", "P=NZ PC=E003", "10:80"},
		// Of the image what is read comes back, and nothing is changed; a device is read once.
		{"EE 00 40", "", "", "F0:EE O1:00 O2:40 D3:EA L2000:10 D3:EA S2000:11", "PC=E003", ""},
		{"0E 00 04", "", "", "F0:0E O1:00 O2:04 D3:EA L1FE400:21 D3:EA S1FE400:42", "PC=E003", ""},
	})
}

// digits is a byte in two digits.
func digits(b int) string { return fmt.Sprintf("%02X", b) }

// P28.4: each bit is cleared, and set; no flag is changed.
func TestBits(t *testing.T) {
	for n := range 8 {
		rmb, smb := digits(0x10*n+7), digits(0x80+0x10*n+7)
		clear, set := digits(0xFF-1<<n), digits(1<<n)
		all(t, []step{
			{rmb + " 10", "A=05 P=NZ", "10:FF", "F0:" + rmb + " O1:10 D2:EA L1F0010:FF D2:EA D2:EA S1F0010:" + clear, "PC=E002", "10:" + clear},
			{smb + " 10", "A=05 P=VC", "", "F0:" + smb + " O1:10 D2:EA L1F0010:00 D2:EA D2:EA S1F0010:" + set, "PC=E002", "10:" + set},
			{rmb + " FE", "X=05", "FE:" + clear, "F0:" + rmb + " O1:FE D2:EA L1F00FE:" + clear + " D2:EA D2:EA S1F00FE:" + clear, "PC=E002", "-"},
			{smb + " FE", "X=05", "FE:" + set, "F0:" + smb + " O1:FE D2:EA L1F00FE:" + set + " D2:EA D2:EA S1F00FE:" + set, "PC=E002", "-"},
		})
	}
}

// P28.4: the byte behind is held against what is read, by each mode; nothing is written, A doesn't matter.
func TestTests(t *testing.T) {
	all(t, []step{
		{"83 0F 10", "A=FF X=01", "10:F0", "F0:83 O1:0F O2:10 D3:EA D3:EA L1F0010:F0 D3:EA", "P=NVZ PC=E003", "-"},
		{"83 10 10", "P=NVZC", "10:3F", "F0:83 O1:10 O2:10 D3:EA D3:EA L1F0010:3F D3:EA", "P=C PC=E003", "-"},
		{"A3 40 F0", "X=20", "10:40", "F0:A3 O1:40 O2:F0 D3:EA D3:EA L1F0010:40 D3:EA", "P=V PC=E003", "-"},
		{"93 10 00 40", "X=01", "", "F0:93 O1:10 O2:00 O3:40 D4:EA D4:EA L2000:10 D4:EA", "PC=E004", "-"},
		{"B3 01 F0 5F", "X=20", "", "F0:B3 O1:01 O2:F0 O3:5F D4:EA D4:EA L4010:30 D4:EA", "P=Z PC=E004", "-"},
		{"B3 80 FF FF", "X=02", "", "F0:B3 O1:80 O2:FF O3:FF D4:EA D4:EA L1FE001:91 D4:EA", "P=N PC=E004", "-"},
	})
}
