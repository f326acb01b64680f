package isa_test

import "testing"

// P28.3: what is read by each mode, and where: places and pointers go round, and words, too.
func TestReadingByModes(t *testing.T) {
	all(t, []step{
		{"A9 80", "A=05", "", "F0:A9 O1:80", "A=80 P=N PC=E002", "-"},
		{"A9 00", "A=05 P=NC", "", "F0:A9 O1:00", "A=00 P=ZC PC=E002", "-"},
		{"A5 10", "P=Z", "10:55", "F0:A5 O1:10 D2:EA L1F0010:55", "A=55 P= PC=E002", "-"},
		{"A5 FF", "X=03 Y=04", "FF:7F", "F0:A5 O1:FF D2:EA L1F00FF:7F", "A=7F PC=E002", "-"},
		{"B5 10", "X=05 Y=09", "15:66", "F0:B5 O1:10 D2:EA L1F0015:66", "A=66 PC=E002", "-"},
		{"B5 F0", "X=20", "10:66 110:77", "F0:B5 O1:F0 D2:EA L1F0010:66", "A=66 PC=E002", "-"},
		{"AD 34 42", "X=01 Y=01", "", "F0:AD O1:34 O2:42 D3:EA L2234:44", "A=44 PC=E003", "-"},
		{"AD 00 80", "", "", "F0:AD O1:00 O2:80 D3:EA L100000:FF", "A=FF P=N PC=E003", "-"},
		{"BD F0 5F", "X=20 Y=01", "", "F0:BD O1:F0 O2:5F D3:EA L4010:30", "A=30 PC=E003", "-"},
		{"B9 FF FF", "X=01 Y=02", "", "F0:B9 O1:FF O2:FF D3:EA L1FE001:91", "A=91 P=N PC=E003", "-"},
		{"B2 20", "X=01 Y=01", "20:34,42", "F0:B2 O1:20 D2:EA L1F0020:34 L1F0021:42 D2:EA L2234:44", "A=44 PC=E002", "-"},
		{"B2 FF", "", "0:42 FF:34 100:63", "F0:B2 O1:FF D2:EA L1F00FF:34 L1F0000:42 D2:EA L2234:44", "A=44 PC=E002", "-"},
		{"A1 20", "X=F0 Y=01", "10:34,42", "F0:A1 O1:20 D2:EA L1F0010:34 L1F0011:42 D2:EA L2234:44", "A=44 PC=E002", "-"},
		{"A1 0F", "X=F0", "0:42 FF:34", "F0:A1 O1:0F D2:EA L1F00FF:34 L1F0000:42 D2:EA L2234:44", "A=44 PC=E002", "-"},
		{"B1 20", "X=01 Y=10", "20:F8,5F", "F0:B1 O1:20 D2:EA L1F0020:F8 L1F0021:5F D2:EA L4008:28", "A=28 PC=E002", "-"},
		{"B1 FF", "Y=FF", "0:FF FF:02", "F0:B1 O1:FF D2:EA L1F00FF:02 L1F0000:FF D2:EA L1FE001:91", "A=91 P=N PC=E002", "-"},
		{"A2 00", "X=05 A=01", "", "F0:A2 O1:00", "X=00 P=Z PC=E002", "-"},
		{"A6 10", "X=05", "10:81", "F0:A6 O1:10 D2:EA L1F0010:81", "X=81 P=N PC=E002", "-"},
		{"B6 FE", "X=05 Y=03", "1:41", "F0:B6 O1:FE D2:EA L1F0001:41", "X=41 PC=E002", "-"},
		{"AE 01 20", "", "1:42", "F0:AE O1:01 O2:20 D3:EA L1F0001:42", "X=42 PC=E003", "-"},
		{"BE 01 20", "X=07 Y=03", "4:43", "F0:BE O1:01 O2:20 D3:EA L1F0004:43", "X=43 PC=E003", "-"},
		{"A0 FF", "Y=05 A=01", "", "F0:A0 O1:FF", "Y=FF P=N PC=E002", "-"},
		{"A4 10", "Y=05", "10:01", "F0:A4 O1:10 D2:EA L1F0010:01", "Y=01 PC=E002", "-"},
		{"B4 10", "X=05 Y=09", "15:00", "F0:B4 O1:10 D2:EA L1F0015:00", "Y=00 P=Z PC=E002", "-"},
		{"AC 00 60", "", "", "F0:AC O1:00 O2:60 D3:EA L4000:20", "Y=20 PC=E003", "-"},
		{"BC 00 60", "X=02 Y=09", "", "F0:BC O1:00 O2:60 D3:EA L4002:22", "Y=22 PC=E003", "-"},
	})
}

// P28.3: what each name does with the value; all other flags stay.
func TestReadingByNames(t *testing.T) {
	all(t, []step{
		{"29 3C", "A=F0 P=NVBDIC", "", "F0:29 O1:3C", "A=30 P=VBDIC PC=E002", "-"},
		{"29 0F", "A=F0", "", "F0:29 O1:0F", "A=00 P=Z PC=E002", "-"},
		{"09 3C", "A=80 P=ZC", "", "F0:09 O1:3C", "A=BC P=NC PC=E002", "-"},
		{"49 FF", "A=0F P=V", "", "F0:49 O1:FF", "A=F0 P=NV PC=E002", "-"},
		{"45 10", "A=55", "10:55", "F0:45 O1:10 D2:EA L1F0010:55", "A=00 P=Z PC=E002", "-"},
		{"69 01", "A=7F", "", "F0:69 O1:01", "A=80 P=NV PC=E002", "-"},
		{"69 01", "A=FE P=VC", "", "F0:69 O1:01", "A=00 P=ZC PC=E002", "-"},
		{"65 10", "A=10 P=C", "10:20", "F0:65 O1:10 D2:EA L1F0010:20", "A=31 P= PC=E002", "-"},
		{"E9 01", "A=80 P=C", "", "F0:E9 O1:01", "A=7F P=VC PC=E002", "-"},
		{"E9 05", "A=05", "", "F0:E9 O1:05", "A=FF P=N PC=E002", "-"},
		{"E5 10", "A=30 P=C", "10:10", "F0:E5 O1:10 D2:EA L1F0010:10", "A=20 P=C PC=E002", "-"},
		{"C9 05", "A=05 X=01 Y=02", "", "F0:C9 O1:05", "P=ZC PC=E002", "-"},
		{"C9 06", "A=05 P=V", "", "F0:C9 O1:06", "P=NV PC=E002", "-"},
		{"E0 01", "A=05 X=01 Y=02", "", "F0:E0 O1:01", "P=ZC PC=E002", "-"},
		{"E4 10", "A=05 X=07 Y=02", "10:06", "F0:E4 O1:10 D2:EA L1F0010:06", "P=C PC=E002", "-"},
		{"C0 02", "A=05 X=01 Y=02", "", "F0:C0 O1:02", "P=ZC PC=E002", "-"},
		{"CC 10 20", "Y=80", "10:01", "F0:CC O1:10 O2:20 D3:EA L1F0010:01", "P=C PC=E003", "-"},
		{"89 C0", "A=3F P=C", "", "F0:89 O1:C0", "P=NVZC PC=E002", "-"},
		{"24 10", "A=FF P=NVZ", "10:3F", "F0:24 O1:10 D2:EA L1F0010:3F", "P= PC=E002", "-"},
		{"34 10", "A=40 X=01", "11:40", "F0:34 O1:10 D2:EA L1F0011:40", "P=V PC=E002", "-"},
		{"2C 00 40", "A=10 P=N", "", "F0:2C O1:00 O2:40 D3:EA L2000:10", "P= PC=E003", "-"},
	})
}

// P28.3: with T set a byte of the zero page is changed instead of A, behind the reading of the value; the flags are those of it.
func TestReadingToMemory(t *testing.T) {
	all(t, []step{
		{"69 05", "A=77 X=12 P=T", "12:FB", "F0:69 O1:05 L1F0012:FB D2:EA S1F0012:00", "P=ZC PC=E002", ""},
		{"69 05", "A=77 X=FF P=TC", "FF:7B", "F0:69 O1:05 L1F00FF:7B D2:EA S1F00FF:81", "P=NV PC=E002", "FF:81"},
		{"65 10", "A=77 X=10 P=T", "10:11", "F0:65 O1:10 D2:EA L1F0010:11 L1F0010:11 D2:EA S1F0010:22", "P= PC=E002", "10:22"},
		{"72 20", "A=77 X=12 P=T", "12:01 20:34,42", "F0:72 O1:20 D2:EA L1F0020:34 L1F0021:42 D2:EA L2234:44 L1F0012:01 D2:EA S1F0012:45", "P= PC=E002", "12:45 20:34,42"},
		{"29 3C", "A=00 X=12 P=NT", "12:F0", "F0:29 O1:3C L1F0012:F0 D2:EA S1F0012:30", "P= PC=E002", "12:30"},
		{"25 10", "A=FF X=12 P=T", "10:0F 12:F0", "F0:25 O1:10 D2:EA L1F0010:0F L1F0012:F0 D2:EA S1F0012:00", "P=Z PC=E002", "10:0F"},
		{"09 80", "A=00 X=00 P=TZ", "0:01", "F0:09 O1:80 L1F0000:01 D2:EA S1F0000:81", "P=N PC=E002", "0:81"},
		{"1D 10 20", "A=00 X=01 P=T", "1:01 11:06", "F0:1D O1:10 O2:20 D3:EA L1F0011:06 L1F0001:01 D3:EA S1F0001:07", "P= PC=E003", "1:07 11:06"},
		{"49 FF", "A=00 X=12 P=T", "12:F0", "F0:49 O1:FF L1F0012:F0 D2:EA S1F0012:0F", "P= PC=E002", "12:0F"},
		{"51 20", "A=00 X=12 Y=04 P=T", "12:F0 20:30,42", "F0:51 O1:20 D2:EA L1F0020:30 L1F0021:42 D2:EA L2234:44 L1F0012:F0 D2:EA S1F0012:B4", "P=N PC=E002", "12:B4 20:30,42"},
		// The zero page is wherever page 1 is.
		{"09 81", "X=04 M1=01 P=T", "", "F0:09 O1:81 L2004:14 D2:EA S2004:95", "P=N PC=E002", "-"},
	})
}

// P28.2, P28.3: with T set all other names do what they do without; T is clear behind them.
func TestReadingWithT(t *testing.T) {
	all(t, []step{
		{"A9 80", "X=12 P=T", "12:F0", "F0:A9 O1:80", "A=80 P=N PC=E002", "-"},
		{"E9 01", "A=05 X=12 P=TC", "12:F0", "F0:E9 O1:01", "A=04 P=C PC=E002", "-"},
		{"C9 05", "A=05 X=12 P=T", "12:F0", "F0:C9 O1:05", "P=ZC PC=E002", "-"},
		{"89 05", "A=05 X=12 P=T", "12:F0", "F0:89 O1:05", "P= PC=E002", "-"},
		{"85 10", "A=05 X=12 P=T", "12:F0", "F0:85 O1:10 D2:EA S1F0010:05", "PC=E002", "10:05 12:F0"},
		{"EA", "X=12 P=T", "12:F0", "F0:EA D1:EA", "PC=E001", "-"},
	})
}

// P28.3: with D set ADC and SBC reckon in decimal digits, and have one access more, at last; all others have not.
func TestReadingDecimal(t *testing.T) {
	all(t, []step{
		{"69 01", "A=19 P=D", "", "F0:69 O1:01 D2:EA", "A=20 PC=E002", "-"},
		{"69 01", "A=99 P=VD", "", "F0:69 O1:01 D2:EA", "A=00 P=VDZC PC=E002", "-"},
		{"65 10", "A=45 P=DC", "10:45", "F0:65 O1:10 D2:EA L1F0010:45 D2:EA", "A=91 P=ND PC=E002", "-"},
		{"E9 01", "A=20 P=DC", "", "F0:E9 O1:01 D2:EA", "A=19 P=DC PC=E002", "-"},
		{"E9 01", "A=00 P=DC", "", "F0:E9 O1:01 D2:EA", "A=99 P=ND PC=E002", "-"},
		{"F1 20", "A=50 Y=00 P=DC", "20:00,21", "F0:F1 O1:20 D2:EA L1F0020:00 L1F0021:21 D2:EA L1F0100:00 D2:EA", "A=50 P=DC PC=E002", "-"},
		{"69 05", "A=77 X=12 P=TD", "12:95", "F0:69 O1:05 L1F0012:95 D2:EA S1F0012:00 D2:EA", "P=DZC PC=E002", ""},
		{"65 10", "A=77 X=12 P=TD", "10:01 12:09", "F0:65 O1:10 D2:EA L1F0010:01 L1F0012:09 D2:EA S1F0012:10 D2:EA", "P=D PC=E002", "10:01 12:10"},
		{"E9 05", "A=77 X=12 P=TDC", "12:95", "F0:E9 O1:05 D2:EA", "A=72 P=DC PC=E002", "-"},
		{"29 FF", "A=19 P=D", "", "F0:29 O1:FF", "A=19 PC=E002", "-"},
		{"49 FF", "A=00 X=12 P=TD", "12:95", "F0:49 O1:FF L1F0012:95 D2:EA S1F0012:6A", "P=D PC=E002", "12:6A"},
		{"C9 01", "A=10 P=D", "", "F0:C9 O1:01", "P=DC PC=E002", "-"},
		{"A9 01", "P=D", "", "F0:A9 O1:01", "A=01 PC=E002", "-"},
	})
}

// P28.2: PC goes round, and is read where the pages tell.
func TestReadingAround(t *testing.T) {
	all(t, []step{
		{"A9 42", "PC=FFFF M0=01", "", "F1FFF:A9 O2000:42", "A=42 PC=0001", "-"},
		{"AD 10 20", "PC=FFFE M0=02", "10:07", "F1FFE:AD O1FFF:10 O4000:20 D4001:21 L1F0010:07", "A=07 PC=0001", "-"},
		{"A5 10", "PC=5FFF", "10:07", "F3FFF:A5 O4000:10 D4001:21 L1F0010:07", "A=07 PC=6001", "-"},
		{"A5 10", "PC=3FFE", "10:07", "F1F1FFE:A5 O1F1FFF:10 D2000:10 L1F0010:07", "A=07 PC=4000", "-"},
	})
}
